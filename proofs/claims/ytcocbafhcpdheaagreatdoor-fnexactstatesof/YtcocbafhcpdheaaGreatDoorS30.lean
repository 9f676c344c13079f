import Derived.Test.YtcocbafhcpdheaaGreatDoorS00Box
import Derived.Test.YtcocbafhcpdheaaGreatDoorS29
import Derived.Deep.RegionHeld3
namespace Go.Proofs.YtcocbafhcpdheaaGreatDoor
open Go.ChangeShapes Go.WideShapes Go.ChangeAt Go.RowKit Go.Shelf
set_option linter.unusedVariables false
noncomputable def findI (c : CacheD) (line : Int) : WayD × Int := findC isL treeB c line
theorem find_bad {c : CacheD} {line : Int} (h : okB isL treeB c = false) : findI c line = (emptyW, -1) := by
 unfold findI findC;rw [h];rfl
theorem isL_len {d : List Int} (h : isL d = true) : d.length = 2 := by
 rcases isL_cases d with h' | ⟨x, y, rfl, _, _⟩
 ·rw [h] at h';cases h'
 ·rfl
theorem ok_len {c : CacheD} (h : OkC isL treeB c) {s j : Nat} {row : List WayD} {u : WayD} (hr : c.1[s]? = some row) (hu : row[j]? = some u) : u.2.2.length ≤ 2 := by
 obtain ⟨h1, h2, m, hm, h3⟩ := h;rcases (h3 s row hr).2.2.1 j u hu with hc | ⟨hf, _⟩
 ·rw [clear_eq hc];simp [emptyW]
 ·rw [full_eq] at hf;simp only [Bool.and_eq_true] at hf;rw [isL_len hf.2.2];exact Nat.le_refl _
theorem wayown_setC {w1 : World} {lo hi g o : Nat} {v : Value} {cs : List Value} {u : WayD} (h : wayR.own w1 (rng lo hi) cs u) (hg : g < lo ∨ hi ≤ g) : wayR.own (w1.setCell ⟨g, o, none⟩ v) (rng lo hi) cs u :=
 own_setC h (fun h' => by have := h'.1; have := h'.2; omega)
theorem made_on {w w1 w2 : World} {cs : List Value} {u : WayD} (h : MadeR wayR w w1 cs u) (hb : Below w1.heap.size w1 w2) : MadeR wayR w w2 cs u :=
 ⟨wayR.own_mono (own_next h.1 hb) (rng_sub (Nat.le_refl _) hb.size), below_step h.2 hb⟩
theorem cs1 {w : World} {g b o k : Nat} {u v : Value} (hne : ¬ (b = g)) (h : w.cell? ⟨b, k, none⟩ = some u) : (w.setCell ⟨g, o, none⟩ v).cell? ⟨b, k, none⟩ = some u :=
 (World.cell?_of_block (w := w) (a := ⟨b, k, none⟩) (heap_setCell_other w ⟨g, o, none⟩ b v hne)).trans h
theorem cs3 {w : World} {g b k : Nat} {u x y z : Value} (hne : ¬ (b = g)) (h : w.cell? ⟨b, k, none⟩ = some u) : (((w.setCell ⟨g, 0, none⟩ x).setCell ⟨g, 1, none⟩ y).setCell ⟨g, 2, none⟩ z).cell? ⟨b, k, none⟩ = some u := cs1 hne (cs1 hne (cs1 hne h))
theorem fin_own {w1 : World} {lo hi g : Nat} {cs : List Value} {u : WayD} {x y z : Value} (h : wayR.own w1 (rng lo hi) cs u) (hg : g < lo) : wayR.own (((w1.setCell ⟨g, 0, none⟩ x).setCell ⟨g, 1, none⟩ y).setCell ⟨g, 2, none⟩ z) (rng lo hi) cs u :=
 wayown_setC (wayown_setC (wayown_setC h (.inl hg)) (.inl hg)) (.inl hg)
theorem fin_made {w w0 w1 : World} {g : Nat} {cs : List Value} {u : WayD} {x y z : Value} (hb : Below w.heap.size w w0) (h : MadeR wayR w0 w1 cs u) (hg : g < w0.heap.size) (hw : w.heap.size ≤ g) : MadeR wayR w (((w1.setCell ⟨g, 0, none⟩ x).setCell ⟨g, 1, none⟩ y).setCell ⟨g, 2, none⟩ z) cs u :=
 ⟨wayR.own_mono (fin_own h.1 hg) (rng_sub hb.size (by simp)), below_setC (below_setC (below_setC (below_step hb h.2) hw) hw) hw⟩
set_option maxHeartbeats 2000000 in
theorem implFindW_any (a b : Option Addr) (c : CacheD) (cap cp : Nat) (line : Int) (w : World) (h1 : SlRd waysR w a c.1) (h2 : SlRd intR w b c.2) (m1 : c.1.length ≤ maxLen) (m2 : c.2.length ≤ maxLen) (m3 : ∀ row ∈ c.1, row.length ≤ maxLen) :
    Calls Tryz.prog 132 #[.agg #[.slice a c.1.length cap, .slice b c.2.length cp], .int .i64 line] w fun e w' => ∃ av cv, e = .returned (.tuple #[.agg #[.int .i64 (findI c line).1.1, .int .i64 (findI c line).1.2.1, .slice av (findI c line).1.2.2.length cv], .int .i64 (findI c line).2]) ∧
     MadeR wayR w w' [.int .i64 (findI c line).1.1, .int .i64 (findI c line).1.2.1, .slice av (findI c line).1.2.2.length cv] (findI c line).1 := by
 have HOK : Hid (∀ W, Below w.heap.size w W → Calls Tryz.prog 194 #[.agg #[.slice a c.1.length cap, .slice b c.2.length cp]] W fun e w' => e = .returned (.bool (okB isL treeB c)) ∧ Below W.heap.size W w') := fun W hb =>
  implCacheOk_any a b c cap cp W (slrd_keep h1 fun k hk => hb.block k hk) (slrd_keep h2 fun k hk => hb.block k hk) m1 m2 m3
 cases hok : okB isL treeB c
 ·rw [hok] at HOK;rw [find_bad hok];show Calls Tryz.prog 132 _ w fun e w' => ∃ av cv, e = .returned (.tuple #[.agg #[.int .i64 (-1), .int .i64 0, .slice av 0 cv], .int .i64 (-1)]) ∧ MadeR wayR w w' [.int .i64 (-1), .int .i64 0, .slice av 0 cv] emptyW
  clear h1 h2 m1 m2 m3;have X := heap_on (.cells #[.int .i64 0, .int .i64 0, .slice none 0 0] 88) (heap_at w (.cells #[.slice a c.1.length cap, .slice b c.2.length cp] 92));have Y := heap_at (w.alloc (.cells #[.slice a c.1.length cap, .slice b c.2.length cp] 92)) (.cells #[.int .i64 0, .int .i64 0, .slice none 0 0] 88);rw [alloc_len] at Y;have B := below_step (box_below w (.cells #[.slice a c.1.length cap, .slice b c.2.length cp] 92)) (box_below _ (.cells #[.int .i64 0, .int .i64 0, .slice none 0 0] 88));go_enter Tryz.func132, Tryz.ntmps132;go_wp2_with fail
  generalize (w.alloc (.cells #[.slice a c.1.length cap, .slice b c.2.length cp] 92)).alloc (.cells #[.int .i64 0, .int .i64 0, .slice none 0 0] 88) = W0 at X Y B ⊢;refine (HOK.out _ B).mono ?_;rintro e w1 ⟨rfl, b1⟩;replace B := below_step B b1;replace Y := row_keep b1 Y;clear b1 X HOK;go_wp2_with fail
  have ly := (ltH Y);refine (emptyWay_any _).mono ?_;rintro e w9 ⟨av, cv, rfl, mm⟩;replace Y := row_keep mm.2 Y;obtain ⟨y0, y1, y2⟩ := cells_3 Y;obtain ⟨f0, f1, f2⟩ := cells_froz Y;have HM : Hid _ := And.intro Y mm;clear Y mm;go_wp2;obtain ⟨Y, mm⟩ := HM.out;obtain ⟨r0, r1, r2⟩ := cells_3 (put3 (a := .int .i64 (-1)) (b := .int .i64 0) (c := .slice av 0 cv) Y);refine bodyPost_ret (v := .tuple #[.agg #[.int .i64 (-1), .int .i64 0, .slice av 0 cv], .int .i64 (-1)]) (by simp [results, Tryz.results132, go_sem, r0, r1, r2]) rfl ⟨av, cv, rfl, fin_made B mm ly (by omega)⟩
 ·have hokc := okB_iff.1 hok;rw [hok] at HOK;have HFD : Hid (∀ W, Below w.heap.size w W → Calls Tryz.prog 196 #[.agg #[.slice a c.1.length cap, .slice b c.2.length cp], .int .i64 line] W fun e w' => e = .returned (.tuple #[.agg #[.int .i64 (findP c line).1, .int .i64 (findP c line).2.1], .bool (findP c line).2.2]) ∧ Below W.heap.size W w') :=
   fun W hbw => implFind_any a b c cap cp line W hokc (slrd_keep h1 fun k hk => hbw.block k hk)
  cases hat : atC c line with
  | none =>
   have HFI : Hid (findI c line = (emptyW, -1)) := find_none hat;have hq : (findP c line).2.2 = false := by rw [findP_eq hokc, hat]; split <;> rfl
   rw [hq] at HFD;rw [HFI.out];show Calls Tryz.prog 132 _ w fun e w' => ∃ av cv, e = .returned (.tuple #[.agg #[.int .i64 (-1), .int .i64 0, .slice av 0 cv], .int .i64 (-1)]) ∧ MadeR wayR w w' [.int .i64 (-1), .int .i64 0, .slice av 0 cv] emptyW
   clear h1 h2 m1 m2 m3 hokc hq;generalize (findP c line).1 = f1 at HFD;generalize (findP c line).2.1 = f2 at HFD;have X := heap_on (.cells #[.int .i64 0, .int .i64 0, .slice none 0 0] 88) (heap_at w (.cells #[.slice a c.1.length cap, .slice b c.2.length cp] 92));have Y := heap_at (w.alloc (.cells #[.slice a c.1.length cap, .slice b c.2.length cp] 92)) (.cells #[.int .i64 0, .int .i64 0, .slice none 0 0] 88);rw [alloc_len] at Y;have B := below_step (box_below w (.cells #[.slice a c.1.length cap, .slice b c.2.length cp] 92)) (box_below _ (.cells #[.int .i64 0, .int .i64 0, .slice none 0 0] 88));go_enter Tryz.func132, Tryz.ntmps132;go_wp2_with fail
   generalize (w.alloc (.cells #[.slice a c.1.length cap, .slice b c.2.length cp] 92)).alloc (.cells #[.int .i64 0, .int .i64 0, .slice none 0 0] 88) = W0 at X Y B ⊢;refine (HOK.out _ B).mono ?_;rintro e w1 ⟨rfl, b1⟩;replace B := below_step B b1;replace X := row_keep b1 X;replace Y := row_keep b1 Y;obtain ⟨x0, x1⟩ := cells_two X;clear b1 HOK;go_wp2_with fail
   refine (HFD.out _ B).mono ?_;rintro e w2 ⟨rfl, b1⟩;have bz := box_below w2 (.cells #[.int .i64 f1, .int .i64 f2] 217);replace B := below_step (below_step B b1) bz;replace Y := row_keep bz (row_keep b1 Y);clear b1 bz x0 x1 X HFD;go_wp2_with fail
   generalize w2.alloc (.cells #[.int .i64 f1, .int .i64 f2] 217) = w3 at Y B ⊢;have ly := (ltH Y);refine (emptyWay_any _).mono ?_;rintro e w9 ⟨av, cv, rfl, mm⟩;replace Y := row_keep mm.2 Y;obtain ⟨y0, y1, y2⟩ := cells_3 Y;obtain ⟨f0, f1, f2⟩ := cells_froz Y;have HM : Hid _ := And.intro Y mm;clear Y mm;go_wp2;obtain ⟨Y, mm⟩ := HM.out;obtain ⟨r0, r1, r2⟩ := cells_3 (put3 (a := .int .i64 (-1)) (b := .int .i64 0) (c := .slice av 0 cv) Y);refine bodyPost_ret (v := .tuple #[.agg #[.int .i64 (-1), .int .i64 0, .slice av 0 cv], .int .i64 (-1)]) (by simp [results, Tryz.results132, go_sem, r0, r1, r2]) rfl ⟨av, cv, rfl, fin_made B mm ly (by omega)⟩
  | some fi =>
   obtain ⟨hl0, u, hu, hul⟩ := at_some hat;have hb : betw line 0 15 = true := by
    cases hbb : betw line 0 15
    ·rw [at_out hokc hbb] at hat;cases hat
    ·rfl
   have HFI : Hid (findI c line = (u, (fi : Int))) := find_some hokc hat hu;have hq : findP c line = (((setNo c line : Nat) : Int), (fi : Int), true) := by rw [findP_eq hokc, if_pos hb, hat]; rfl
   rw [hq] at HFD;rw [HFI.out];obtain ⟨hp, hget, hne, hr4, hset, hsl⟩ := ok_row hokc line;have hln := ok_len hokc hget hu;obtain ⟨b0, o0, aj, cj, rfl, k2, -, -, hrd⟩ := set_at h1 hget;have hfl := (List.getElem?_eq_some_iff.1 hu).1;obtain ⟨bj, oj, cs, rfl, hrdu, hcell⟩ := slrd_at hrd hu;obtain ⟨ad, cpw, rfl, i1, i2, -, -, hd3⟩ := way_rd hrdu;have k4 := hcell 0 _ rfl;have k5 := hcell 1 _ rfl;have k6 := hcell 2 _ rfl;rw [show oj + (fi * wayR.size + 0) = oj + fi * 3 from rfl] at k4;rw [show oj + (fi * wayR.size + 1) = oj + fi * 3 + 1 from rfl] at k5;rw [show oj + (fi * wayR.size + 2) = oj + fi * 3 + 2 from rfl] at k6;have hgl : (fi : Int) < ((rowFor c line).length : Int) := by omega
   have hsl1 : ((setNo c line : Nat) : Int) < (c.1.length : Int) := by omega
   have HI : Hid (In64 u.1 ∧ In64 u.2.1) := ⟨i1, i2⟩;have HD : Hid (∀ W, Below w.heap.size w W → SlRd intR W ad u.2.2) := fun W hbw => slrd_keep hd3 fun k hk => hbw.block k hk;have HLN : Hid (u.2.2.length ≤ 1048576) := by unfold Hid; omega
   have KC : Hid (∀ W, Below w.heap.size w W → W.cell? ⟨b0, o0 + setNo c line, none⟩ = some (.slice (some ⟨bj, oj, none⟩) (rowFor c line).length cj) ∧ W.cell? ⟨bj, oj + fi * 3, none⟩ = some (.int .i64 u.1) ∧ W.cell? ⟨bj, oj + fi * 3 + 1, none⟩ = some (.int .i64 u.2.1) ∧ W.cell? ⟨bj, oj + fi * 3 + 2, none⟩ = some (.slice ad u.2.2.length cpw)) :=
    fun W hbw => ⟨cell_keep hbw k2 (cell_lt k2), cell_keep hbw k4 (cell_lt k4), cell_keep hbw k5 (cell_lt k5), cell_keep hbw k6 (cell_lt k6)⟩
   have lb0 := cell_lt k2;have lbj := cell_lt k4;clear h1 h2 m1 m2 m3 hokc hget hne hr4 hset hu hul hrd hrdu hcell i1 i2 hd3 k2 k4 k5 k6 hq hln hp;generalize setNo c line = sn at HFD KC hsl hsl1;generalize (rowFor c line).length = rn at KC hgl hfl;obtain ⟨ul, us, ud⟩ := u;simp only at HI HD HLN KC
   have X := heap_on (.cells #[.int .i64 0, .int .i64 0, .slice none 0 0] 88) (heap_at w (.cells #[.slice (some ⟨b0, o0, none⟩) c.1.length cap, .slice b c.2.length cp] 92));have Y := heap_at (w.alloc (.cells #[.slice (some ⟨b0, o0, none⟩) c.1.length cap, .slice b c.2.length cp] 92)) (.cells #[.int .i64 0, .int .i64 0, .slice none 0 0] 88);rw [alloc_len] at Y;have B := below_step (box_below w (.cells #[.slice (some ⟨b0, o0, none⟩) c.1.length cap, .slice b c.2.length cp] 92)) (box_below _ (.cells #[.int .i64 0, .int .i64 0, .slice none 0 0] 88));go_enter Tryz.func132, Tryz.ntmps132;go_wp2_with fail
   generalize (w.alloc (.cells #[.slice (some ⟨b0, o0, none⟩) c.1.length cap, .slice b c.2.length cp] 92)).alloc (.cells #[.int .i64 0, .int .i64 0, .slice none 0 0] 88) = W0 at X Y B ⊢;refine (HOK.out _ B).mono ?_;rintro e w1 ⟨rfl, b1⟩;replace B := below_step B b1;replace X := row_keep b1 X;replace Y := row_keep b1 Y;obtain ⟨x0, x1⟩ := cells_two X;clear b1 HOK;go_wp2_with fail
   refine (HFD.out _ B).mono ?_;rintro e w4 ⟨rfl, b1⟩;have HLT : Hid (w.heap.size + 1 < w4.heap.size) := (Array.getElem?_eq_some_iff.1 (row_keep b1 Y)).1;have bz := box_below w4 (.cells #[.int .i64 (sn : Int), .int .i64 (fi : Int)] 217);have Z := heap_at w4 (.cells #[.int .i64 (sn : Int), .int .i64 (fi : Int)] 217);replace B := below_step (below_step B b1) bz;replace X := row_keep bz (row_keep b1 X);replace Y := row_keep bz (row_keep b1 Y);clear b1 bz x0 x1 HFD;go_wp2_with fail
   generalize w4.alloc (.cells #[.int .i64 (sn : Int), .int .i64 (fi : Int)] 217) = w5 at X Y Z B ⊢;have ly := (ltH Y);obtain ⟨x0, x1⟩ := cells_two X;obtain ⟨z0, z1⟩ := cells_two Z;obtain ⟨p0, p1, p2, p3⟩ := KC.out _ B;have HX : Hid _ := And.intro X (And.intro Y Z);have ne1 : ¬ (w4.heap.size = w.heap.size + 1) := by have := HLT.out; omega
   have ne2 : ¬ (b0 = w.heap.size + 1) := by omega
   have ne3 : ¬ (bj = w.heap.size + 1) := by omega
   clear X Y Z;go_region_held3 (fun wx => wx.cell? ⟨w.heap.size, 0, none⟩ = some (.slice (some ⟨b0, o0, none⟩) c.1.length cap) ∧ wx.cell? ⟨w4.heap.size, 0, none⟩ = some (.int .i64 (sn : Int)) ∧ wx.cell? ⟨w4.heap.size, 1, none⟩ = some (.int .i64 (fi : Int)) ∧ wx.cell? ⟨b0, o0 + sn, none⟩ = some (.slice (some ⟨bj, oj, none⟩) rn cj) ∧ wx.cell? ⟨bj, oj + fi * 3, none⟩ = some (.int .i64 ul) ∧ wx.cell? ⟨bj, oj + fi * 3 + 1, none⟩ = some (.int .i64 us) ∧ wx.cell? ⟨bj, oj + fi * 3 + 2, none⟩ = some (.slice ad ud.length cpw)) (first | (go_keep; done) | (exact ⟨cs3 (by omega) x0', cs3 ne1 z0', cs3 ne1 z1', cs3 ne2 p0', cs3 ne3 p1', cs3 ne3 p2', cs3 ne3 p3'⟩)) (first | (go_at_call 197; refine (wayCopied_any ul us ud ad cpw _ HI.out.1 HI.out.2 (HD.out _ B.drew) HLN.out).mono ?_; rintro e w9 ⟨av, cv, rfl, mm⟩; have BB := below_step B.drew mm.2; obtain ⟨X, Y, Z⟩ := HX.out; replace X := row_keep (w := w5.drew) mm.2 X; replace Y := row_keep (w := w5.drew) mm.2 Y; replace Z := row_keep (w := w5.drew) mm.2 Z; obtain ⟨x0', x1'⟩ := cells_two X; obtain ⟨z0', z1'⟩ := cells_two Z; obtain ⟨p0', p1', p2', p3'⟩ := KC.out _ BB; obtain ⟨y0', y1', y2'⟩ := cells_3 Y; obtain ⟨f0', f1', f2'⟩ := cells_froz Y))
   all_goals
    go_wp2;obtain ⟨r0, r1, r2⟩ := cells_3 (put3 (a := .int .i64 ul) (b := .int .i64 us) (c := .slice av ud.length cv) Y);refine bodyPost_ret (v := .tuple #[.agg #[.int .i64 ul, .int .i64 us, .slice av ud.length cv], .int .i64 (fi : Int)]) (by simp [results, Tryz.results132, go_sem, r0, r1, r2]) rfl ⟨av, cv, rfl, fin_made B.drew mm (by exact ly) (by omega)⟩
theorem sumbk_ints (d : List Int) : sumbk intM d = 0 := by
 induction d with
 | nil => rfl
 | cons x d ih =>
  simp only [sumbk, List.map_cons, List.sum_cons] at ih ⊢;rw [ih];rfl
set_option maxHeartbeats 1000000 in
theorem l6Way_in (b : Option Addr) (c : CacheD) (cap cp b0 o0 bj oj cj fi cpw : Nat) (ad : Option Addr) (line : Int) (ul us : Int) (ud : List Int) (w : World) (hokc : OkC isL treeB c) (h1 : SlRd waysR w (some ⟨b0, o0, none⟩) c.1) (hat : atC c line = some fi)
    (k2 : w.cell? ⟨b0, o0 + setNo c line, none⟩ = some (.slice (some ⟨bj, oj, none⟩) (rowFor c line).length cj)) (k4 : w.cell? ⟨bj, oj + fi * 3, none⟩ = some (.int .i64 ul)) (k5 : w.cell? ⟨bj, oj + fi * 3 + 1, none⟩ = some (.int .i64 us)) (k6 : w.cell? ⟨bj, oj + fi * 3 + 2, none⟩ = some (.slice ad ud.length cpw)) :
    Calls Tryz.prog 103 #[.agg #[.slice (some ⟨b0, o0, none⟩) c.1.length cap, .slice b c.2.length cp], .int .i64 line] w fun e w' => e = .returned (.agg #[.int .i64 ul, .int .i64 us, .slice ad ud.length cpw]) ∧ Below w.heap.size w w' := by
 obtain ⟨hl0, u, hu, hul⟩ := at_some hat;have HAT : Hid (∀ W, Below w.heap.size w W → Calls Tryz.prog 150 #[.agg #[.slice (some ⟨b0, o0, none⟩) c.1.length cap, .slice b c.2.length cp], .int .i64 line] W fun e w' => e = .returned (.int .i64 (fi : Int)) ∧ Below W.heap.size W w') := fun W hbw => by
  have := specAt_any (some ⟨b0, o0, none⟩) b c cap cp line W hokc (slrd_keep h1 fun k hk => hbw.block k hk);rwa [hat] at this
 obtain ⟨hp, hget, hne, hr4, hset, hsl⟩ := ok_row hokc line;have hfl := (List.getElem?_eq_some_iff.1 hu).1;have hgl : (fi : Int) < ((rowFor c line).length : Int) := by omega
 have hsl1 : ((setNo c line : Nat) : Int) < (c.1.length : Int) := by omega
 have hset' : line % (c.1.length : Int) = ((setNo c line : Nat) : Int) := hset.symm;have hz : (c.1.length : Int) ≠ 0 := by omega
 have hz2 : ((c.1.length : Int) == 0) = false := beq_false_of_ne hz;have hz3 : ¬ (c.1.length = 0) := by omega
 have hz4 : ¬ (c.1 = []) := fun e => by rw [e] at hz3; exact hz3 rfl
 have ht3 : Int.tmod line (c.1.length : Int) = ((setNo c line : Nat) : Int) := by rw [Int.tmod_eq_emod_of_nonneg hl0, hset']
 have hfi0 : ¬ ((fi : Int) < 0) := by omega
 have KC : Hid (∀ W, Below w.heap.size w W → W.cell? ⟨b0, o0 + setNo c line, none⟩ = some (.slice (some ⟨bj, oj, none⟩) (rowFor c line).length cj) ∧ W.cell? ⟨bj, oj + fi * 3, none⟩ = some (.int .i64 ul) ∧ W.cell? ⟨bj, oj + fi * 3 + 1, none⟩ = some (.int .i64 us) ∧ W.cell? ⟨bj, oj + fi * 3 + 2, none⟩ = some (.slice ad ud.length cpw)) :=
  fun W hbw => ⟨cell_keep hbw k2 (cell_lt k2), cell_keep hbw k4 (cell_lt k4), cell_keep hbw k5 (cell_lt k5), cell_keep hbw k6 (cell_lt k6)⟩
 have lb0 := cell_lt k2;have lbj := cell_lt k4;clear h1 hokc hget hne hr4 hset hu hul k2 k4 k5 k6 hp hat;generalize setNo c line = sn at KC hsl hsl1 hset' ht3;generalize (rowFor c line).length = rn at KC hgl hfl;have X := heap_on (.cells #[.int .i64 0, .int .i64 0, .slice none 0 0] 88) (heap_at w (.cells #[.slice (some ⟨b0, o0, none⟩) c.1.length cap, .slice b c.2.length cp] 92));have Y := heap_at (w.alloc (.cells #[.slice (some ⟨b0, o0, none⟩) c.1.length cap, .slice b c.2.length cp] 92)) (.cells #[.int .i64 0, .int .i64 0, .slice none 0 0] 88);rw [alloc_len] at Y;have B := below_step (box_below w (.cells #[.slice (some ⟨b0, o0, none⟩) c.1.length cap, .slice b c.2.length cp] 92)) (box_below _ (.cells #[.int .i64 0, .int .i64 0, .slice none 0 0] 88));go_enter Tryz.func103, Tryz.ntmps103;go_wp2_with fail
 generalize (w.alloc (.cells #[.slice (some ⟨b0, o0, none⟩) c.1.length cap, .slice b c.2.length cp] 92)).alloc (.cells #[.int .i64 0, .int .i64 0, .slice none 0 0] 88) = W0 at X Y B ⊢;refine (HAT.out _ B).mono ?_;rintro e w5 ⟨rfl, b1⟩;replace B := below_step B b1;replace X := row_keep b1 X;replace Y := row_keep b1 Y;clear b1 HAT;obtain ⟨x0, x1⟩ := cells_two X;obtain ⟨y0, y1, y2⟩ := cells_3 Y;obtain ⟨f0, f1, f2⟩ := cells_froz Y;obtain ⟨p0, p1, p2, p3⟩ := KC.out _ B;have ne0 : ¬ (w.heap.size = w.heap.size + 1) := by omega
 have ne2 : ¬ (b0 = w.heap.size + 1) := by omega
 have ne3 : ¬ (bj = w.heap.size + 1) := by omega
 have HY : Hid _ := Y;clear X Y;go_wp2_with fail
 go_region_held3 (fun wx => wx.cell? ⟨w.heap.size, 0, none⟩ = some (.slice (some ⟨b0, o0, none⟩) c.1.length cap) ∧ wx.cell? ⟨b0, o0 + sn, none⟩ = some (.slice (some ⟨bj, oj, none⟩) rn cj) ∧ wx.cell? ⟨bj, oj + fi * 3, none⟩ = some (.int .i64 ul) ∧ wx.cell? ⟨bj, oj + fi * 3 + 1, none⟩ = some (.int .i64 us) ∧ wx.cell? ⟨bj, oj + fi * 3 + 2, none⟩ = some (.slice ad ud.length cpw)) (first | (go_keep; done) | (exact ⟨cs3 ne0 x0, cs3 ne2 p0, cs3 ne3 p1, cs3 ne3 p2, cs3 ne3 p3⟩)) (fail)
 all_goals
  go_wp2;obtain ⟨r0, r1, r2⟩ := cells_3 (put3 (w := w5) (a := .int .i64 ul) (b := .int .i64 us) (c := .slice ad ud.length cpw) HY.out);refine bodyPost_ret (v := .agg #[.int .i64 ul, .int .i64 us, .slice ad ud.length cpw]) (by simp [results, Tryz.results103, go_sem, r0, r1, r2]) rfl ⟨rfl, (below_setC (below_setC (below_setC B (by omega)) (by omega)) (by omega)).drew⟩
end Go.Proofs.YtcocbafhcpdheaaGreatDoor
