import Derived.Test.YtcocbafhcpdheaaGreatDoorT00Box
import Derived.Test.YtcocbafhcpdheaaGreatDoorT28
import Derived.Deep.RegionHeld3
namespace Go.Proofs.YtcocbafhcpdheaaGreatDoor
open Go.ChangeShapes Go.WideShapes Go.ChangeAt Go.RowKit Go.Shelf
set_option linter.unusedVariables false
noncomputable def zEy (c : zA7) (line : Int) : zC3 × Int := zKa isL zAH c line
theorem find_bad {c : zA7} {line : Int} (h : okB isL zAH c = false) : zEy c line = (zB0, -1) := by
 unfold zEy zKa;rw [h];rfl
theorem isL_len {d : List Int} (h : isL d = true) : d.length = 2 := by
 rcases zGz d with h' | ⟨x, y, rfl, _, _⟩
 ·rw [h] at h';cases h'
 ·rfl
theorem ok_len {c : zA7} (h : OkC isL zAH c) {s j : Nat} {row : List zC3} {u : zC3} (hr : c.1[s]? = some row) (hu : row[j]? = some u) : u.2.2.length ≤ 2 := by
 obtain ⟨h1, h2, m, hm, h3⟩ := h;rcases (h3 s row hr).2.2.1 j u hu with hc | ⟨hf, _⟩
 ·rw [zE6 hc];simp [zB0]
 ·rw [zKn] at hf;simp only [Bool.and_eq_true] at hf;rw [isL_len hf.2.2];exact Nat.le_refl _
theorem zFd {w1 : World} {lo hi g o : Nat} {v : Value} {cs : List Value} {u : zC3} (h : zBu.own w1 (rng lo hi) cs u) (hg : g < lo ∨ hi ≤ g) : zBu.own (w1.setCell ⟨g, o, none⟩ v) (rng lo hi) cs u :=
 zAc h (fun h' => by have := h'.1; have := h'.2; omega)
theorem made_on {w w1 w2 : World} {cs : List Value} {u : zC3} (h : zAI zBu w w1 cs u) (hb : Below w1.heap.size w1 w2) : zAI zBu w w2 cs u :=
 ⟨zBu.own_mono (own_next h.1 hb) (zAZ (Nat.le_refl _) hb.size), zAa h.2 hb⟩
theorem cs1 {w : World} {g b o k : Nat} {u v : Value} (hne : ¬ (b = g)) (h : w.cell? ⟨b, k, none⟩ = some u) : (w.setCell ⟨g, o, none⟩ v).cell? ⟨b, k, none⟩ = some u :=
 (World.cell?_of_block (w := w) (a := ⟨b, k, none⟩) (heap_setCell_other w ⟨g, o, none⟩ b v hne)).trans h
theorem cs3 {w : World} {g b k : Nat} {u x y z : Value} (hne : ¬ (b = g)) (h : w.cell? ⟨b, k, none⟩ = some u) : (((w.setCell ⟨g, 0, none⟩ x).setCell ⟨g, 1, none⟩ y).setCell ⟨g, 2, none⟩ z).cell? ⟨b, k, none⟩ = some u := cs1 hne (cs1 hne (cs1 hne h))
theorem fin_own {w1 : World} {lo hi g : Nat} {cs : List Value} {u : zC3} {x y z : Value} (h : zBu.own w1 (rng lo hi) cs u) (hg : g < lo) : zBu.own (((w1.setCell ⟨g, 0, none⟩ x).setCell ⟨g, 1, none⟩ y).setCell ⟨g, 2, none⟩ z) (rng lo hi) cs u :=
 zFd (zFd (zFd h (.inl hg)) (.inl hg)) (.inl hg)
theorem zGq {w w0 w1 : World} {g : Nat} {cs : List Value} {u : zC3} {x y z : Value} (hb : Below w.heap.size w w0) (h : zAI zBu w0 w1 cs u) (hg : g < w0.heap.size) (hw : w.heap.size ≤ g) : zAI zBu w (((w1.setCell ⟨g, 0, none⟩ x).setCell ⟨g, 1, none⟩ y).setCell ⟨g, 2, none⟩ z) cs u :=
 ⟨zBu.own_mono (fin_own h.1 hg) (zAZ hb.size (by simp)), zAi (zAi (zAi (zAa hb h.2) hw) hw) hw⟩
set_option maxHeartbeats 2000000 in
theorem zIq (a b : Option Addr) (c : zA7) (cap cp : Nat) (line : Int) (w : World) (h1 : zA4 zBh w a c.1) (h2 : zA4 zAG w b c.2) (m1 : c.1.length ≤ maxLen) (m2 : c.2.length ≤ maxLen) (m3 : ∀ row ∈ c.1, row.length ≤ maxLen) :
    Calls Tryz.prog 132 #[.agg #[.slice a c.1.length cap, .slice b c.2.length cp], .int .i64 line] w fun e w' => ∃ av cv, e = .returned (.tuple #[.agg #[.int .i64 (zEy c line).1.1, .int .i64 (zEy c line).1.2.1, .slice av (zEy c line).1.2.2.length cv], .int .i64 (zEy c line).2]) ∧
     zAI zBu w w' [.int .i64 (zEy c line).1.1, .int .i64 (zEy c line).1.2.1, .slice av (zEy c line).1.2.2.length cv] (zEy c line).1 := by
 have HOK : Hid (∀ W, Below w.heap.size w W → Calls Tryz.prog 194 #[.agg #[.slice a c.1.length cap, .slice b c.2.length cp]] W fun e w' => e = .returned (.bool (okB isL zAH c)) ∧ Below W.heap.size W w') := fun W hb =>
  zEl a b c cap cp W (zAq h1 fun k hk => hb.block k hk) (zAq h2 fun k hk => hb.block k hk) m1 m2 m3
 cases hok : okB isL zAH c
 ·rw [hok] at HOK;rw [find_bad hok];show Calls Tryz.prog 132 _ w fun e w' => ∃ av cv, e = .returned (.tuple #[.agg #[.int .i64 (-1), .int .i64 0, .slice av 0 cv], .int .i64 (-1)]) ∧ zAI zBu w w' [.int .i64 (-1), .int .i64 0, .slice av 0 cv] zB0
  clear h1 h2 m1 m2 m3;have X := zA3 (.cells #[.int .i64 0, .int .i64 0, .slice none 0 0] 88) (zAn w (.cells #[.slice a c.1.length cap, .slice b c.2.length cp] 92));have Y := zAn (w.alloc (.cells #[.slice a c.1.length cap, .slice b c.2.length cp] 92)) (.cells #[.int .i64 0, .int .i64 0, .slice none 0 0] 88);rw [zAv] at Y;have B := zAa (zAf w (.cells #[.slice a c.1.length cap, .slice b c.2.length cp] 92)) (zAf _ (.cells #[.int .i64 0, .int .i64 0, .slice none 0 0] 88));go_enter Tryz.func132, Tryz.ntmps132;go_wp2_with fail
  generalize (w.alloc (.cells #[.slice a c.1.length cap, .slice b c.2.length cp] 92)).alloc (.cells #[.int .i64 0, .int .i64 0, .slice none 0 0] 88) = W0 at X Y B ⊢;refine (HOK.out _ B).mono ?_;rintro e w1 ⟨rfl, b1⟩;replace B := zAa B b1;replace Y := zAb b1 Y;clear b1 X HOK;go_wp2_with fail
  have ly := (ltH Y);refine (zFS _).mono ?_;rintro e w9 ⟨av, cv, rfl, mm⟩;replace Y := zAb mm.2 Y;obtain ⟨y0, y1, y2⟩ := zCh Y;obtain ⟨f0, f1, f2⟩ := zCA Y;have HM : Hid _ := And.intro Y mm;clear Y mm;go_wp2;obtain ⟨Y, mm⟩ := HM.out;obtain ⟨r0, r1, r2⟩ := zCh (put3 (a := .int .i64 (-1)) (b := .int .i64 0) (c := .slice av 0 cv) Y);refine bodyPost_ret (v := .tuple #[.agg #[.int .i64 (-1), .int .i64 0, .slice av 0 cv], .int .i64 (-1)]) (by simp [results, Tryz.results132, go_sem, r0, r1, r2]) rfl ⟨av, cv, rfl, zGq B mm ly (by omega)⟩
 ·have hokc := zEQ.1 hok;rw [hok] at HOK;have HFD : Hid (∀ W, Below w.heap.size w W → Calls Tryz.prog 196 #[.agg #[.slice a c.1.length cap, .slice b c.2.length cp], .int .i64 line] W fun e w' => e = .returned (.tuple #[.agg #[.int .i64 (zD0 c line).1, .int .i64 (zD0 c line).2.1], .bool (zD0 c line).2.2]) ∧ Below W.heap.size W w') :=
   fun W hbw => zFR a b c cap cp line W hokc (zAq h1 fun k hk => hbw.block k hk)
  cases hat : atC c line with
  | none =>
   have HFI : Hid (zEy c line = (zB0, -1)) := zN7 hat;have hq : (zD0 c line).2.2 = false := by rw [zIm hokc, hat]; split <;> rfl
   rw [hq] at HFD;rw [HFI.out];show Calls Tryz.prog 132 _ w fun e w' => ∃ av cv, e = .returned (.tuple #[.agg #[.int .i64 (-1), .int .i64 0, .slice av 0 cv], .int .i64 (-1)]) ∧ zAI zBu w w' [.int .i64 (-1), .int .i64 0, .slice av 0 cv] zB0
   clear h1 h2 m1 m2 m3 hokc hq;generalize (zD0 c line).1 = f1 at HFD;generalize (zD0 c line).2.1 = f2 at HFD;have X := zA3 (.cells #[.int .i64 0, .int .i64 0, .slice none 0 0] 88) (zAn w (.cells #[.slice a c.1.length cap, .slice b c.2.length cp] 92));have Y := zAn (w.alloc (.cells #[.slice a c.1.length cap, .slice b c.2.length cp] 92)) (.cells #[.int .i64 0, .int .i64 0, .slice none 0 0] 88);rw [zAv] at Y;have B := zAa (zAf w (.cells #[.slice a c.1.length cap, .slice b c.2.length cp] 92)) (zAf _ (.cells #[.int .i64 0, .int .i64 0, .slice none 0 0] 88));go_enter Tryz.func132, Tryz.ntmps132;go_wp2_with fail
   generalize (w.alloc (.cells #[.slice a c.1.length cap, .slice b c.2.length cp] 92)).alloc (.cells #[.int .i64 0, .int .i64 0, .slice none 0 0] 88) = W0 at X Y B ⊢;refine (HOK.out _ B).mono ?_;rintro e w1 ⟨rfl, b1⟩;replace B := zAa B b1;replace X := zAb b1 X;replace Y := zAb b1 Y;obtain ⟨x0, x1⟩ := zAK X;clear b1 HOK;go_wp2_with fail
   refine (HFD.out _ B).mono ?_;rintro e w2 ⟨rfl, b1⟩;have bz := zAf w2 (.cells #[.int .i64 f1, .int .i64 f2] 217);replace B := zAa (zAa B b1) bz;replace Y := zAb bz (zAb b1 Y);clear b1 bz x0 x1 X HFD;go_wp2_with fail
   generalize w2.alloc (.cells #[.int .i64 f1, .int .i64 f2] 217) = w3 at Y B ⊢;have ly := (ltH Y);refine (zFS _).mono ?_;rintro e w9 ⟨av, cv, rfl, mm⟩;replace Y := zAb mm.2 Y;obtain ⟨y0, y1, y2⟩ := zCh Y;obtain ⟨f0, f1, f2⟩ := zCA Y;have HM : Hid _ := And.intro Y mm;clear Y mm;go_wp2;obtain ⟨Y, mm⟩ := HM.out;obtain ⟨r0, r1, r2⟩ := zCh (put3 (a := .int .i64 (-1)) (b := .int .i64 0) (c := .slice av 0 cv) Y);refine bodyPost_ret (v := .tuple #[.agg #[.int .i64 (-1), .int .i64 0, .slice av 0 cv], .int .i64 (-1)]) (by simp [results, Tryz.results132, go_sem, r0, r1, r2]) rfl ⟨av, cv, rfl, zGq B mm ly (by omega)⟩
  | some fi =>
   obtain ⟨hl0, u, hu, hul⟩ := zER hat;have hb : zA8 line 0 15 = true := by
    cases hbb : zA8 line 0 15
    ·rw [at_out hokc hbb] at hat;cases hat
    ·rfl
   have HFI : Hid (zEy c line = (u, (fi : Int))) := zN8 hokc hat hu;have hq : zD0 c line = (((zCN c line : Nat) : Int), (fi : Int), true) := by rw [zIm hokc, if_pos hb, hat]; rfl
   rw [hq] at HFD;rw [HFI.out];obtain ⟨hp, hget, hne, hr4, hset, hsl⟩ := zFQ hokc line;have hln := ok_len hokc hget hu;obtain ⟨b0, o0, aj, cj, rfl, k2, -, -, hrd⟩ := zDV h1 hget;have hfl := (List.getElem?_eq_some_iff.1 hu).1;obtain ⟨bj, oj, cs, rfl, hrdu, hcell⟩ := zAy hrd hu;obtain ⟨ad, cpw, rfl, i1, i2, -, -, hd3⟩ := zBz hrdu;have k4 := hcell 0 _ rfl;have k5 := hcell 1 _ rfl;have k6 := hcell 2 _ rfl;rw [show oj + (fi * zBu.size + 0) = oj + fi * 3 from rfl] at k4;rw [show oj + (fi * zBu.size + 1) = oj + fi * 3 + 1 from rfl] at k5;rw [show oj + (fi * zBu.size + 2) = oj + fi * 3 + 2 from rfl] at k6;have hgl : (fi : Int) < ((zB1 c line).length : Int) := by omega
   have hsl1 : ((zCN c line : Nat) : Int) < (c.1.length : Int) := by omega
   have HI : Hid (zAN u.1 ∧ zAN u.2.1) := ⟨i1, i2⟩;have HD : Hid (∀ W, Below w.heap.size w W → zA4 zAG W ad u.2.2) := fun W hbw => zAq hd3 fun k hk => hbw.block k hk;have HLN : Hid (u.2.2.length ≤ 1048576) := by unfold Hid; omega
   have KC : Hid (∀ W, Below w.heap.size w W → W.cell? ⟨b0, o0 + zCN c line, none⟩ = some (.slice (some ⟨bj, oj, none⟩) (zB1 c line).length cj) ∧ W.cell? ⟨bj, oj + fi * 3, none⟩ = some (.int .i64 u.1) ∧ W.cell? ⟨bj, oj + fi * 3 + 1, none⟩ = some (.int .i64 u.2.1) ∧ W.cell? ⟨bj, oj + fi * 3 + 2, none⟩ = some (.slice ad u.2.2.length cpw)) :=
    fun W hbw => ⟨zAe hbw k2 (zAk k2), zAe hbw k4 (zAk k4), zAe hbw k5 (zAk k5), zAe hbw k6 (zAk k6)⟩
   have lb0 := zAk k2;have lbj := zAk k4;clear h1 h2 m1 m2 m3 hokc hget hne hr4 hset hu hul hrd hrdu hcell i1 i2 hd3 k2 k4 k5 k6 hq hln hp;generalize zCN c line = sn at HFD KC hsl hsl1;generalize (zB1 c line).length = rn at KC hgl hfl;obtain ⟨ul, us, ud⟩ := u;simp only at HI HD HLN KC
   have X := zA3 (.cells #[.int .i64 0, .int .i64 0, .slice none 0 0] 88) (zAn w (.cells #[.slice (some ⟨b0, o0, none⟩) c.1.length cap, .slice b c.2.length cp] 92));have Y := zAn (w.alloc (.cells #[.slice (some ⟨b0, o0, none⟩) c.1.length cap, .slice b c.2.length cp] 92)) (.cells #[.int .i64 0, .int .i64 0, .slice none 0 0] 88);rw [zAv] at Y;have B := zAa (zAf w (.cells #[.slice (some ⟨b0, o0, none⟩) c.1.length cap, .slice b c.2.length cp] 92)) (zAf _ (.cells #[.int .i64 0, .int .i64 0, .slice none 0 0] 88));go_enter Tryz.func132, Tryz.ntmps132;go_wp2_with fail
   generalize (w.alloc (.cells #[.slice (some ⟨b0, o0, none⟩) c.1.length cap, .slice b c.2.length cp] 92)).alloc (.cells #[.int .i64 0, .int .i64 0, .slice none 0 0] 88) = W0 at X Y B ⊢;refine (HOK.out _ B).mono ?_;rintro e w1 ⟨rfl, b1⟩;replace B := zAa B b1;replace X := zAb b1 X;replace Y := zAb b1 Y;obtain ⟨x0, x1⟩ := zAK X;clear b1 HOK;go_wp2_with fail
   refine (HFD.out _ B).mono ?_;rintro e w4 ⟨rfl, b1⟩;have HLT : Hid (w.heap.size + 1 < w4.heap.size) := (Array.getElem?_eq_some_iff.1 (zAb b1 Y)).1;have bz := zAf w4 (.cells #[.int .i64 (sn : Int), .int .i64 (fi : Int)] 217);have Z := zAn w4 (.cells #[.int .i64 (sn : Int), .int .i64 (fi : Int)] 217);replace B := zAa (zAa B b1) bz;replace X := zAb bz (zAb b1 X);replace Y := zAb bz (zAb b1 Y);clear b1 bz x0 x1 HFD;go_wp2_with fail
   generalize w4.alloc (.cells #[.int .i64 (sn : Int), .int .i64 (fi : Int)] 217) = w5 at X Y Z B ⊢;have ly := (ltH Y);obtain ⟨x0, x1⟩ := zAK X;obtain ⟨z0, z1⟩ := zAK Z;obtain ⟨p0, p1, p2, p3⟩ := KC.out _ B;have HX : Hid _ := And.intro X (And.intro Y Z);have ne1 : ¬ (w4.heap.size = w.heap.size + 1) := by have := HLT.out; omega
   have ne2 : ¬ (b0 = w.heap.size + 1) := by omega
   have ne3 : ¬ (bj = w.heap.size + 1) := by omega
   clear X Y Z;go_region_held3 (fun wx => wx.cell? ⟨w.heap.size, 0, none⟩ = some (.slice (some ⟨b0, o0, none⟩) c.1.length cap) ∧ wx.cell? ⟨w4.heap.size, 0, none⟩ = some (.int .i64 (sn : Int)) ∧ wx.cell? ⟨w4.heap.size, 1, none⟩ = some (.int .i64 (fi : Int)) ∧ wx.cell? ⟨b0, o0 + sn, none⟩ = some (.slice (some ⟨bj, oj, none⟩) rn cj) ∧ wx.cell? ⟨bj, oj + fi * 3, none⟩ = some (.int .i64 ul) ∧ wx.cell? ⟨bj, oj + fi * 3 + 1, none⟩ = some (.int .i64 us) ∧ wx.cell? ⟨bj, oj + fi * 3 + 2, none⟩ = some (.slice ad ud.length cpw)) (first | (go_keep; done) | (exact ⟨cs3 (by omega) x0', cs3 ne1 z0', cs3 ne1 z1', cs3 ne2 p0', cs3 ne3 p1', cs3 ne3 p2', cs3 ne3 p3'⟩)) (first | (go_at_call 197; refine (zIp ul us ud ad cpw _ HI.out.1 HI.out.2 (HD.out _ B.drew) HLN.out).mono ?_; rintro e w9 ⟨av, cv, rfl, mm⟩; have BB := zAa B.drew mm.2; obtain ⟨X, Y, Z⟩ := HX.out; replace X := zAb (w := w5.drew) mm.2 X; replace Y := zAb (w := w5.drew) mm.2 Y; replace Z := zAb (w := w5.drew) mm.2 Z; obtain ⟨x0', x1'⟩ := zAK X; obtain ⟨z0', z1'⟩ := zAK Z; obtain ⟨p0', p1', p2', p3'⟩ := KC.out _ BB; obtain ⟨y0', y1', y2'⟩ := zCh Y; obtain ⟨f0', f1', f2'⟩ := zCA Y))
   all_goals
    go_wp2;obtain ⟨r0, r1, r2⟩ := zCh (put3 (a := .int .i64 ul) (b := .int .i64 us) (c := .slice av ud.length cv) Y);refine bodyPost_ret (v := .tuple #[.agg #[.int .i64 ul, .int .i64 us, .slice av ud.length cv], .int .i64 (fi : Int)]) (by simp [results, Tryz.results132, go_sem, r0, r1, r2]) rfl ⟨av, cv, rfl, zGq B.drew mm (by exact ly) (by omega)⟩
theorem zM8 (d : List Int) : zA6 zBa d = 0 := by
 induction d with
 | nil => rfl
 | cons x d ih =>
  simp only [zA6, List.map_cons, List.sum_cons] at ih ⊢;rw [ih];rfl
set_option maxHeartbeats 1000000 in
theorem zL8 (b : Option Addr) (c : zA7) (cap cp b0 o0 bj oj cj fi cpw : Nat) (ad : Option Addr) (line : Int) (ul us : Int) (ud : List Int) (w : World) (hokc : OkC isL zAH c) (h1 : zA4 zBh w (some ⟨b0, o0, none⟩) c.1) (hat : atC c line = some fi)
    (k2 : w.cell? ⟨b0, o0 + zCN c line, none⟩ = some (.slice (some ⟨bj, oj, none⟩) (zB1 c line).length cj)) (k4 : w.cell? ⟨bj, oj + fi * 3, none⟩ = some (.int .i64 ul)) (k5 : w.cell? ⟨bj, oj + fi * 3 + 1, none⟩ = some (.int .i64 us)) (k6 : w.cell? ⟨bj, oj + fi * 3 + 2, none⟩ = some (.slice ad ud.length cpw)) :
    Calls Tryz.prog 103 #[.agg #[.slice (some ⟨b0, o0, none⟩) c.1.length cap, .slice b c.2.length cp], .int .i64 line] w fun e w' => e = .returned (.agg #[.int .i64 ul, .int .i64 us, .slice ad ud.length cpw]) ∧ Below w.heap.size w w' := by
 obtain ⟨hl0, u, hu, hul⟩ := zER hat;have HAT : Hid (∀ W, Below w.heap.size w W → Calls Tryz.prog 150 #[.agg #[.slice (some ⟨b0, o0, none⟩) c.1.length cap, .slice b c.2.length cp], .int .i64 line] W fun e w' => e = .returned (.int .i64 (fi : Int)) ∧ Below W.heap.size W w') := fun W hbw => by
  have := zFB (some ⟨b0, o0, none⟩) b c cap cp line W hokc (zAq h1 fun k hk => hbw.block k hk);rwa [hat] at this
 obtain ⟨hp, hget, hne, hr4, hset, hsl⟩ := zFQ hokc line;have hfl := (List.getElem?_eq_some_iff.1 hu).1;have hgl : (fi : Int) < ((zB1 c line).length : Int) := by omega
 have hsl1 : ((zCN c line : Nat) : Int) < (c.1.length : Int) := by omega
 have hset' : line % (c.1.length : Int) = ((zCN c line : Nat) : Int) := hset.symm;have hz : (c.1.length : Int) ≠ 0 := by omega
 have hz2 : ((c.1.length : Int) == 0) = false := beq_false_of_ne hz;have hz3 : ¬ (c.1.length = 0) := by omega
 have hz4 : ¬ (c.1 = []) := fun e => by rw [e] at hz3; exact hz3 rfl
 have ht3 : Int.tmod line (c.1.length : Int) = ((zCN c line : Nat) : Int) := by rw [Int.tmod_eq_emod_of_nonneg hl0, hset']
 have hfi0 : ¬ ((fi : Int) < 0) := by omega
 have KC : Hid (∀ W, Below w.heap.size w W → W.cell? ⟨b0, o0 + zCN c line, none⟩ = some (.slice (some ⟨bj, oj, none⟩) (zB1 c line).length cj) ∧ W.cell? ⟨bj, oj + fi * 3, none⟩ = some (.int .i64 ul) ∧ W.cell? ⟨bj, oj + fi * 3 + 1, none⟩ = some (.int .i64 us) ∧ W.cell? ⟨bj, oj + fi * 3 + 2, none⟩ = some (.slice ad ud.length cpw)) :=
  fun W hbw => ⟨zAe hbw k2 (zAk k2), zAe hbw k4 (zAk k4), zAe hbw k5 (zAk k5), zAe hbw k6 (zAk k6)⟩
 have lb0 := zAk k2;have lbj := zAk k4;clear h1 hokc hget hne hr4 hset hu hul k2 k4 k5 k6 hp hat;generalize zCN c line = sn at KC hsl hsl1 hset' ht3;generalize (zB1 c line).length = rn at KC hgl hfl;have X := zA3 (.cells #[.int .i64 0, .int .i64 0, .slice none 0 0] 88) (zAn w (.cells #[.slice (some ⟨b0, o0, none⟩) c.1.length cap, .slice b c.2.length cp] 92));have Y := zAn (w.alloc (.cells #[.slice (some ⟨b0, o0, none⟩) c.1.length cap, .slice b c.2.length cp] 92)) (.cells #[.int .i64 0, .int .i64 0, .slice none 0 0] 88);rw [zAv] at Y;have B := zAa (zAf w (.cells #[.slice (some ⟨b0, o0, none⟩) c.1.length cap, .slice b c.2.length cp] 92)) (zAf _ (.cells #[.int .i64 0, .int .i64 0, .slice none 0 0] 88));go_enter Tryz.func103, Tryz.ntmps103;go_wp2_with fail
 generalize (w.alloc (.cells #[.slice (some ⟨b0, o0, none⟩) c.1.length cap, .slice b c.2.length cp] 92)).alloc (.cells #[.int .i64 0, .int .i64 0, .slice none 0 0] 88) = W0 at X Y B ⊢;refine (HAT.out _ B).mono ?_;rintro e w5 ⟨rfl, b1⟩;replace B := zAa B b1;replace X := zAb b1 X;replace Y := zAb b1 Y;clear b1 HAT;obtain ⟨x0, x1⟩ := zAK X;obtain ⟨y0, y1, y2⟩ := zCh Y;obtain ⟨f0, f1, f2⟩ := zCA Y;obtain ⟨p0, p1, p2, p3⟩ := KC.out _ B;have ne0 : ¬ (w.heap.size = w.heap.size + 1) := by omega
 have ne2 : ¬ (b0 = w.heap.size + 1) := by omega
 have ne3 : ¬ (bj = w.heap.size + 1) := by omega
 have HY : Hid _ := Y;clear X Y;go_wp2_with fail
 go_region_held3 (fun wx => wx.cell? ⟨w.heap.size, 0, none⟩ = some (.slice (some ⟨b0, o0, none⟩) c.1.length cap) ∧ wx.cell? ⟨b0, o0 + sn, none⟩ = some (.slice (some ⟨bj, oj, none⟩) rn cj) ∧ wx.cell? ⟨bj, oj + fi * 3, none⟩ = some (.int .i64 ul) ∧ wx.cell? ⟨bj, oj + fi * 3 + 1, none⟩ = some (.int .i64 us) ∧ wx.cell? ⟨bj, oj + fi * 3 + 2, none⟩ = some (.slice ad ud.length cpw)) (first | (go_keep; done) | (exact ⟨cs3 ne0 x0, cs3 ne2 p0, cs3 ne3 p1, cs3 ne3 p2, cs3 ne3 p3⟩)) (fail)
 all_goals
  go_wp2;obtain ⟨r0, r1, r2⟩ := zCh (put3 (w := w5) (a := .int .i64 ul) (b := .int .i64 us) (c := .slice ad ud.length cpw) HY.out);refine bodyPost_ret (v := .agg #[.int .i64 ul, .int .i64 us, .slice ad ud.length cpw]) (by simp [results, Tryz.results103, go_sem, r0, r1, r2]) rfl ⟨rfl, (zAi (zAi (zAi B (by omega)) (by omega)) (by omega)).drew⟩
end Go.Proofs.YtcocbafhcpdheaaGreatDoor
