import Derived.Test.YtcocbafhcpdheaaGreatDoorT00Box
import Derived.Test.YtcocbafhcpdheaaGreatDoorT28
import Derived.Deep.RegionHeld3
namespace Go.Proofs.YtcocbafhcpdheaaGreatDoor
open Go.ChangeShapes Go.WideShapes Go.ChangeAt Go.RowKit Go.Shelf
set_option linter.unusedVariables false
noncomputable def zEy (c : zA7) (line : Int) : zC3 × Int := zKa isL zAH c line
theorem find_bad {c : zA7} {line : Int} (h : okB isL zAH c = false) : zEy c line = (zB0, -1) := by
 unfold zEy zKa;rw [h];rfl
theorem isL_len {d : List Int} (h : isL d = true) : d.length = 2 := by
 rcases zGz d with a | ⟨x, y, rfl, _, _⟩
 ·rw [h] at a;cases a
 ·rfl
theorem ok_len {c : zA7} (h : OkC isL zAH c) {s j : Nat} {row : List zC3} {u : zC3} (hr : c.1[s]? = some row) (hu : row[j]? = some u) : u.2.2.length ≤ 2 := by
 obtain ⟨h1, h2, m, hm, b⟩ := h;rcases (b s row hr).2.2.1 j u hu with d | ⟨a, _⟩
 ·rw [zE6 d];simp [zB0]
 ·rw [zKn] at a;simp only [Bool.and_eq_true] at a;rw [isL_len a.2.2];exact Nat.le_refl _
theorem zFd {w1 : World} {lo hi g o : Nat} {v : Value} {cs : List Value} {u : zC3} (h : zBu.own w1 (rng lo hi) cs u) (hg : g < lo ∨ hi ≤ g) : zBu.own (w1.setCell ⟨g, o, none⟩ v) (rng lo hi) cs u :=
 zAc h (fun h' => by have := h'.1; have := h'.2; omega)
theorem made_on {w w1 w2 : World} {cs : List Value} {u : zC3} (h : zAI zBu w w1 cs u) (hb : Below w1.heap.size w1 w2) : zAI zBu w w2 cs u :=
 ⟨zBu.own_mono (own_next h.1 hb) (zAZ (Nat.le_refl _) hb.size), zAa h.2 hb⟩
theorem cs1 {w : World} {g b o k : Nat} {u v : Value} (hne : ¬ (b = g)) (h : w.cell? ⟨b, k, none⟩ = some u) : (w.setCell ⟨g, o, none⟩ v).cell? ⟨b, k, none⟩ = some u :=
 (World.cell?_of_block (w := w) (a := ⟨b, k, none⟩) (heap_setCell_other w ⟨g, o, none⟩ b v hne)).trans h
theorem cs3 {w : World} {g b k : Nat} {u x y z : Value} (hne : ¬ (b = g)) (h : w.cell? ⟨b, k, none⟩ = some u) : (((w.setCell ⟨g, 0, none⟩ x).setCell ⟨g, 1, none⟩ y).setCell ⟨g, 2, none⟩ z).cell? ⟨b, k, none⟩ = some u := cs1 hne (cs1 hne (cs1 hne h))
theorem fin_own {w1 : World} {lo hi g : Nat} {cs : List Value} {u : zC3} {x y z : Value} (h : zBu.own w1 (rng lo hi) cs u) (hg : g < lo) : zBu.own (((w1.setCell ⟨g, 0, none⟩ x).setCell ⟨g, 1, none⟩ y).setCell ⟨g, 2, none⟩ z) (rng lo hi) cs u :=
 zFd (zFd (zFd h (.inl hg)) (.inl hg)) (.inl hg)
theorem zGq {w w0 w1 : World} {g : Nat} {cs : List Value} {u : zC3} {x y z : Value} (hb : Below w.heap.size w w0) (h : zAI zBu w0 w1 cs u) (hg : g < w0.heap.size) (hw : w.heap.size ≤ g) : zAI zBu w (((w1.setCell ⟨g, 0, none⟩ x).setCell ⟨g, 1, none⟩ y).setCell ⟨g, 2, none⟩ z) cs u :=
 ⟨zBu.own_mono (fin_own h.1 hg) (zAZ hb.size (by simp)), zAi (zAi (zAi (zAa hb h.2) hw) hw) hw⟩
set_option maxHeartbeats 2000000 in
theorem zIq (a b : Option Addr) (c : zA7) (cap cp : Nat) (line : Int) (w : World) (h1 : zA4 zBh w a c.1) (h2 : zA4 zAG w b c.2) (m1 : c.1.length ≤ maxLen) (m2 : c.2.length ≤ maxLen) (m3 : ∀ row ∈ c.1, row.length ≤ maxLen) :
    Calls Tryz.prog 132 #[.agg #[.slice a c.1.length cap, .slice b c.2.length cp], .int .i64 line] w fun e w' => ∃ g i, e = .returned (.tuple #[.agg #[.int .i64 (zEy c line).1.1, .int .i64 (zEy c line).1.2.1, .slice g (zEy c line).1.2.2.length i], .int .i64 (zEy c line).2]) ∧
     zAI zBu w w' [.int .i64 (zEy c line).1.1, .int .i64 (zEy c line).1.2.1, .slice g (zEy c line).1.2.2.length i] (zEy c line).1 := by
 have n : Hid (∀ W, Below w.heap.size w W → Calls Tryz.prog 194 #[.agg #[.slice a c.1.length cap, .slice b c.2.length cp]] W fun e w' => e = .returned (.bool (okB isL zAH c)) ∧ Below W.heap.size W w') := fun W hb =>
  zEl a b c cap cp W (zAq h1 fun k hk => hb.block k hk) (zAq h2 fun k hk => hb.block k hk) m1 m2 m3
 cases s : okB isL zAH c
 ·rw [s] at n;rw [find_bad s];show Calls Tryz.prog 132 _ w fun e w' => ∃ g i, e = .returned (.tuple #[.agg #[.int .i64 (-1), .int .i64 0, .slice g 0 i], .int .i64 (-1)]) ∧ zAI zBu w w' [.int .i64 (-1), .int .i64 0, .slice g 0 i] zB0
  clear h1 h2 m1 m2 m3;have X := zA3 (.cells #[.int .i64 0, .int .i64 0, .slice none 0 0] 88) (zAn w (.cells #[.slice a c.1.length cap, .slice b c.2.length cp] 92));have Y := zAn (w.alloc (.cells #[.slice a c.1.length cap, .slice b c.2.length cp] 92)) (.cells #[.int .i64 0, .int .i64 0, .slice none 0 0] 88);rw [zAv] at Y;have B := zAa (zAf w (.cells #[.slice a c.1.length cap, .slice b c.2.length cp] 92)) (zAf _ (.cells #[.int .i64 0, .int .i64 0, .slice none 0 0] 88));go_enter Tryz.func132, Tryz.ntmps132;go_wp2_with fail
  generalize (w.alloc (.cells #[.slice a c.1.length cap, .slice b c.2.length cp] 92)).alloc (.cells #[.int .i64 0, .int .i64 0, .slice none 0 0] 88) = W0 at X Y B ⊢;refine (n.out _ B).mono ?_;rintro e w1 ⟨rfl, f⟩;replace B := zAa B f;replace Y := zAb f Y;clear f X n;go_wp2_with fail
  have V := (ltH Y);refine (zFS _).mono ?_;rintro e w9 ⟨g, i, rfl, m⟩;replace Y := zAb m.2 Y;obtain ⟨y0, y1, y2⟩ := zCh Y;obtain ⟨f0, f1, f2⟩ := zCA Y;have HM : Hid _ := And.intro Y m;clear Y m;go_wp2;obtain ⟨Y, m⟩ := HM.out;obtain ⟨H, K, T⟩ := zCh (put3 (a := .int .i64 (-1)) (b := .int .i64 0) (c := .slice g 0 i) Y);refine bodyPost_ret (v := .tuple #[.agg #[.int .i64 (-1), .int .i64 0, .slice g 0 i], .int .i64 (-1)]) (by simp [results, Tryz.results132, go_sem, H, K, T]) rfl ⟨g, i, rfl, zGq B m V (by omega)⟩
 ·have d := zEQ.1 s;rw [s] at n;have j : Hid (∀ W, Below w.heap.size w W → Calls Tryz.prog 196 #[.agg #[.slice a c.1.length cap, .slice b c.2.length cp], .int .i64 line] W fun e w' => e = .returned (.tuple #[.agg #[.int .i64 (zD0 c line).1, .int .i64 (zD0 c line).2.1], .bool (zD0 c line).2.2]) ∧ Below W.heap.size W w') :=
   fun W hbw => zFR a b c cap cp line W d (zAq h1 fun k hk => hbw.block k hk)
  cases o : atC c line with
  | none =>
   have F : Hid (zEy c line = (zB0, -1)) := zN7 o;have R : (zD0 c line).2.2 = false := by rw [zIm d, o]; split <;> rfl
   rw [R] at j;rw [F.out];show Calls Tryz.prog 132 _ w fun e w' => ∃ g i, e = .returned (.tuple #[.agg #[.int .i64 (-1), .int .i64 0, .slice g 0 i], .int .i64 (-1)]) ∧ zAI zBu w w' [.int .i64 (-1), .int .i64 0, .slice g 0 i] zB0
   clear h1 h2 m1 m2 m3 d R;generalize (zD0 c line).1 = f1 at j;generalize (zD0 c line).2.1 = f2 at j;have X := zA3 (.cells #[.int .i64 0, .int .i64 0, .slice none 0 0] 88) (zAn w (.cells #[.slice a c.1.length cap, .slice b c.2.length cp] 92));have Y := zAn (w.alloc (.cells #[.slice a c.1.length cap, .slice b c.2.length cp] 92)) (.cells #[.int .i64 0, .int .i64 0, .slice none 0 0] 88);rw [zAv] at Y;have B := zAa (zAf w (.cells #[.slice a c.1.length cap, .slice b c.2.length cp] 92)) (zAf _ (.cells #[.int .i64 0, .int .i64 0, .slice none 0 0] 88));go_enter Tryz.func132, Tryz.ntmps132;go_wp2_with fail
   generalize (w.alloc (.cells #[.slice a c.1.length cap, .slice b c.2.length cp] 92)).alloc (.cells #[.int .i64 0, .int .i64 0, .slice none 0 0] 88) = W0 at X Y B ⊢;refine (n.out _ B).mono ?_;rintro e w1 ⟨rfl, f⟩;replace B := zAa B f;replace X := zAb f X;replace Y := zAb f Y;obtain ⟨x0, x1⟩ := zAK X;clear f n;go_wp2_with fail
   refine (j.out _ B).mono ?_;rintro e w2 ⟨rfl, f⟩;have A := zAf w2 (.cells #[.int .i64 f1, .int .i64 f2] 217);replace B := zAa (zAa B f) A;replace Y := zAb A (zAb f Y);clear f A x0 x1 X j;go_wp2_with fail
   generalize w2.alloc (.cells #[.int .i64 f1, .int .i64 f2] 217) = w3 at Y B ⊢;have V := (ltH Y);refine (zFS _).mono ?_;rintro e w9 ⟨g, i, rfl, m⟩;replace Y := zAb m.2 Y;obtain ⟨y0, y1, y2⟩ := zCh Y;obtain ⟨f0, f1, f2⟩ := zCA Y;have HM : Hid _ := And.intro Y m;clear Y m;go_wp2;obtain ⟨Y, m⟩ := HM.out;obtain ⟨H, K, T⟩ := zCh (put3 (a := .int .i64 (-1)) (b := .int .i64 0) (c := .slice g 0 i) Y);refine bodyPost_ret (v := .tuple #[.agg #[.int .i64 (-1), .int .i64 0, .slice g 0 i], .int .i64 (-1)]) (by simp [results, Tryz.results132, go_sem, H, K, T]) rfl ⟨g, i, rfl, zGq B m V (by omega)⟩
  | some fi =>
   obtain ⟨eB, u, M, qA⟩ := zER o;have hb : zA8 line 0 15 = true := by
    cases sA : zA8 line 0 15
    ·rw [at_out d sA] at o;cases o
    ·rfl
   have F : Hid (zEy c line = (u, (fi : Int))) := zN8 d o M;have R : zD0 c line = (((zCN c line : Nat) : Int), (fi : Int), true) := by rw [zIm d, if_pos hb, o]; rfl
   rw [R] at j;rw [F.out];obtain ⟨hp, q, HA, IA, U, zA⟩ := zFQ d line;have AA := ok_len d q M;obtain ⟨y, C, aj, cj, rfl, k2, -, -, I⟩ := zDV h1 q;have vA := (List.getElem?_eq_some_iff.1 M).1;obtain ⟨r, p, cs, rfl, z, l⟩ := zAy I M;obtain ⟨ad, E, rfl, i1, i2, -, -, O⟩ := zBz z;have L := l 0 _ rfl;have k5 := l 1 _ rfl;have k6 := l 2 _ rfl;rw [show p + (fi * zBu.size + 0) = p + fi * 3 from rfl] at L;rw [show p + (fi * zBu.size + 1) = p + fi * 3 + 1 from rfl] at k5;rw [show p + (fi * zBu.size + 2) = p + fi * 3 + 2 from rfl] at k6;have LA : (fi : Int) < ((zB1 c line).length : Int) := by omega
   have S : ((zCN c line : Nat) : Int) < (c.1.length : Int) := by omega
   have HI : Hid (zAN u.1 ∧ zAN u.2.1) := ⟨i1, i2⟩;have HD : Hid (∀ W, Below w.heap.size w W → zA4 zAG W ad u.2.2) := fun W hbw => zAq O fun k hk => hbw.block k hk;have J : Hid (u.2.2.length ≤ 1048576) := by unfold Hid; omega
   have N : Hid (∀ W, Below w.heap.size w W → W.cell? ⟨y, C + zCN c line, none⟩ = some (.slice (some ⟨r, p, none⟩) (zB1 c line).length cj) ∧ W.cell? ⟨r, p + fi * 3, none⟩ = some (.int .i64 u.1) ∧ W.cell? ⟨r, p + fi * 3 + 1, none⟩ = some (.int .i64 u.2.1) ∧ W.cell? ⟨r, p + fi * 3 + 2, none⟩ = some (.slice ad u.2.2.length E)) :=
    fun W hbw => ⟨zAe hbw k2 (zAk k2), zAe hbw L (zAk L), zAe hbw k5 (zAk k5), zAe hbw k6 (zAk k6)⟩
   have dB := zAk k2;have kB := zAk L;clear h1 h2 m1 m2 m3 d q HA IA U M qA I z l i1 i2 O k2 L k5 k6 R AA hp;generalize zCN c line = sn at j N zA S;generalize (zB1 c line).length = rn at N LA vA;obtain ⟨ul, us, ud⟩ := u;simp only at HI HD J N
   have X := zA3 (.cells #[.int .i64 0, .int .i64 0, .slice none 0 0] 88) (zAn w (.cells #[.slice (some ⟨y, C, none⟩) c.1.length cap, .slice b c.2.length cp] 92));have Y := zAn (w.alloc (.cells #[.slice (some ⟨y, C, none⟩) c.1.length cap, .slice b c.2.length cp] 92)) (.cells #[.int .i64 0, .int .i64 0, .slice none 0 0] 88);rw [zAv] at Y;have B := zAa (zAf w (.cells #[.slice (some ⟨y, C, none⟩) c.1.length cap, .slice b c.2.length cp] 92)) (zAf _ (.cells #[.int .i64 0, .int .i64 0, .slice none 0 0] 88));go_enter Tryz.func132, Tryz.ntmps132;go_wp2_with fail
   generalize (w.alloc (.cells #[.slice (some ⟨y, C, none⟩) c.1.length cap, .slice b c.2.length cp] 92)).alloc (.cells #[.int .i64 0, .int .i64 0, .slice none 0 0] 88) = W0 at X Y B ⊢;refine (n.out _ B).mono ?_;rintro e w1 ⟨rfl, f⟩;replace B := zAa B f;replace X := zAb f X;replace Y := zAb f Y;obtain ⟨x0, x1⟩ := zAK X;clear f n;go_wp2_with fail
   refine (j.out _ B).mono ?_;rintro e G ⟨rfl, f⟩;have JA : Hid (w.heap.size + 1 < G.heap.size) := (Array.getElem?_eq_some_iff.1 (zAb f Y)).1;have A := zAf G (.cells #[.int .i64 (sn : Int), .int .i64 (fi : Int)] 217);replace B := zAa (zAa B f) A;replace X := zAb A (zAb f X);replace Y := zAb A (zAb f Y);clear f A x0 x1 j;go_wp2_with fail
   generalize bA : G.alloc _ = w5;have Z := boxH bA;clear bA;have V := (ltH Y);obtain ⟨x0, x1⟩ := zAK X;obtain ⟨z0, z1⟩ := zAK Z;obtain ⟨p0, p1, p2, p3⟩ := N.out _ B;have HX : Hid _ := And.intro X (And.intro Y Z);have aA : ¬ (G.heap.size = w.heap.size + 1) := by have := JA.out; omega
   have rA : ¬ (y = w.heap.size + 1) := by omega
   have D : ¬ (r = w.heap.size + 1) := by omega
   clear X Y Z;go_region_held3 (fun wx => wx.cell? ⟨w.heap.size, 0, none⟩ = some (.slice (some ⟨y, C, none⟩) c.1.length cap) ∧ wx.cell? ⟨G.heap.size, 0, none⟩ = some (.int .i64 (sn : Int)) ∧ wx.cell? ⟨G.heap.size, 1, none⟩ = some (.int .i64 (fi : Int)) ∧ wx.cell? ⟨y, C + sn, none⟩ = some (.slice (some ⟨r, p, none⟩) rn cj) ∧ wx.cell? ⟨r, p + fi * 3, none⟩ = some (.int .i64 ul) ∧ wx.cell? ⟨r, p + fi * 3 + 1, none⟩ = some (.int .i64 us) ∧ wx.cell? ⟨r, p + fi * 3 + 2, none⟩ = some (.slice ad ud.length E)) (first | (go_keep; done) | (exact ⟨cs3 (by omega) EA, cs3 aA pA, cs3 aA FA, cs3 rA CA, cs3 D DA, cs3 D yA, cs3 D BA⟩)) (first | (go_at_call 197; refine (zIp ul us ud ad E _ HI.out.1 HI.out.2 (HD.out _ B.drew) J.out).mono ?_; rintro e w9 ⟨g, i, rfl, m⟩; have BB := zAa B.drew m.2; obtain ⟨X, Y, Z⟩ := HX.out; replace X := zAb (w := w5.drew) m.2 X; replace Y := zAb (w := w5.drew) m.2 Y; replace Z := zAb (w := w5.drew) m.2 Z; obtain ⟨EA, bB⟩ := zAK X; obtain ⟨pA, FA⟩ := zAK Z; obtain ⟨CA, DA, yA, BA⟩ := N.out _ BB; obtain ⟨aB, YA, iB⟩ := zCh Y; obtain ⟨lB, ZA, jB⟩ := zCA Y))
   all_goals
    go_wp2;obtain ⟨H, K, T⟩ := zCh (put3 (a := .int .i64 ul) (b := .int .i64 us) (c := .slice g ud.length i) Y);refine bodyPost_ret (v := .tuple #[.agg #[.int .i64 ul, .int .i64 us, .slice g ud.length i], .int .i64 (fi : Int)]) (by simp [results, Tryz.results132, go_sem, H, K, T]) rfl ⟨g, i, rfl, zGq B.drew m (by exact V) (by omega)⟩
theorem zM8 (d : List Int) : zA6 zBa d = 0 := by
 induction d with
 | nil => rfl
 | cons x d ih =>
  simp only [zA6, List.map_cons, List.sum_cons] at ih ⊢;rw [ih];rfl
set_option maxHeartbeats 1000000 in
theorem zL8 (b : Option Addr) (c : zA7) (cap cp b0 o0 bj oj cj fi cpw : Nat) (ad : Option Addr) (line : Int) (ul us : Int) (ud : List Int) (w : World) (hokc : OkC isL zAH c) (h1 : zA4 zBh w (some ⟨b0, o0, none⟩) c.1) (hat : atC c line = some fi)
    (k2 : w.cell? ⟨b0, o0 + zCN c line, none⟩ = some (.slice (some ⟨bj, oj, none⟩) (zB1 c line).length cj)) (k4 : w.cell? ⟨bj, oj + fi * 3, none⟩ = some (.int .i64 ul)) (k5 : w.cell? ⟨bj, oj + fi * 3 + 1, none⟩ = some (.int .i64 us)) (k6 : w.cell? ⟨bj, oj + fi * 3 + 2, none⟩ = some (.slice ad ud.length cpw)) :
    Calls Tryz.prog 103 #[.agg #[.slice (some ⟨b0, o0, none⟩) c.1.length cap, .slice b c.2.length cp], .int .i64 line] w fun e w' => e = .returned (.agg #[.int .i64 ul, .int .i64 us, .slice ad ud.length cpw]) ∧ Below w.heap.size w w' := by
 obtain ⟨A, u, F, o⟩ := zER hat;have j : Hid (∀ W, Below w.heap.size w W → Calls Tryz.prog 150 #[.agg #[.slice (some ⟨b0, o0, none⟩) c.1.length cap, .slice b c.2.length cp], .int .i64 line] W fun e w' => e = .returned (.int .i64 (fi : Int)) ∧ Below W.heap.size W w') := fun W hbw => by
  have := zFB (some ⟨b0, o0, none⟩) b c cap cp line W hokc (zAq h1 fun k hk => hbw.block k hk);rwa [hat] at this
 obtain ⟨Z, m, D, E, f, p⟩ := zFQ hokc line;have s := (List.getElem?_eq_some_iff.1 F).1;have C : (fi : Int) < ((zB1 c line).length : Int) := by omega
 have i : ((zCN c line : Nat) : Int) < (c.1.length : Int) := by omega
 have d : line % (c.1.length : Int) = ((zCN c line : Nat) : Int) := f.symm;have N : (c.1.length : Int) ≠ 0 := by omega
 have I : ((c.1.length : Int) == 0) = false := beq_false_of_ne N;have l : ¬ (c.1.length = 0) := by omega
 have bA : ¬ (c.1 = []) := fun e => by rw [e] at l; exact l rfl
 have q : Int.tmod line (c.1.length : Int) = ((zCN c line : Nat) : Int) := by rw [Int.tmod_eq_emod_of_nonneg A, d]
 have G : ¬ ((fi : Int) < 0) := by omega
 have y : Hid (∀ W, Below w.heap.size w W → W.cell? ⟨b0, o0 + zCN c line, none⟩ = some (.slice (some ⟨bj, oj, none⟩) (zB1 c line).length cj) ∧ W.cell? ⟨bj, oj + fi * 3, none⟩ = some (.int .i64 ul) ∧ W.cell? ⟨bj, oj + fi * 3 + 1, none⟩ = some (.int .i64 us) ∧ W.cell? ⟨bj, oj + fi * 3 + 2, none⟩ = some (.slice ad ud.length cpw)) :=
  fun W hbw => ⟨zAe hbw k2 (zAk k2), zAe hbw k4 (zAk k4), zAe hbw k5 (zAk k5), zAe hbw k6 (zAk k6)⟩
 have M := zAk k2;have L := zAk k4;clear h1 hokc m D E f F o k2 k4 k5 k6 Z hat;generalize zCN c line = sn at y p i d q;generalize (zB1 c line).length = rn at y C s;have X := zA3 (.cells #[.int .i64 0, .int .i64 0, .slice none 0 0] 88) (zAn w (.cells #[.slice (some ⟨b0, o0, none⟩) c.1.length cap, .slice b c.2.length cp] 92));have Y := zAn (w.alloc (.cells #[.slice (some ⟨b0, o0, none⟩) c.1.length cap, .slice b c.2.length cp] 92)) (.cells #[.int .i64 0, .int .i64 0, .slice none 0 0] 88);rw [zAv] at Y;have B := zAa (zAf w (.cells #[.slice (some ⟨b0, o0, none⟩) c.1.length cap, .slice b c.2.length cp] 92)) (zAf _ (.cells #[.int .i64 0, .int .i64 0, .slice none 0 0] 88));go_enter Tryz.func103, Tryz.ntmps103;go_wp2_with fail
 generalize (w.alloc (.cells #[.slice (some ⟨b0, o0, none⟩) c.1.length cap, .slice b c.2.length cp] 92)).alloc (.cells #[.int .i64 0, .int .i64 0, .slice none 0 0] 88) = W0 at X Y B ⊢;refine (j.out _ B).mono ?_;rintro e w5 ⟨rfl, n⟩;replace B := zAa B n;replace X := zAb n X;replace Y := zAb n Y;clear n j;obtain ⟨U, x1⟩ := zAK X;obtain ⟨y0, y1, y2⟩ := zCh Y;obtain ⟨f0, f1, f2⟩ := zCA Y;obtain ⟨S, H, J, K⟩ := y.out _ B;have z : ¬ (w.heap.size = w.heap.size + 1) := by omega
 have r : ¬ (b0 = w.heap.size + 1) := by omega
 have g : ¬ (bj = w.heap.size + 1) := by omega
 have V : Hid _ := Y;clear X Y;go_wp2_with fail
 go_region_held3 (fun wx => wx.cell? ⟨w.heap.size, 0, none⟩ = some (.slice (some ⟨b0, o0, none⟩) c.1.length cap) ∧ wx.cell? ⟨b0, o0 + sn, none⟩ = some (.slice (some ⟨bj, oj, none⟩) rn cj) ∧ wx.cell? ⟨bj, oj + fi * 3, none⟩ = some (.int .i64 ul) ∧ wx.cell? ⟨bj, oj + fi * 3 + 1, none⟩ = some (.int .i64 us) ∧ wx.cell? ⟨bj, oj + fi * 3 + 2, none⟩ = some (.slice ad ud.length cpw)) (first | (go_keep; done) | (exact ⟨cs3 z U, cs3 r S, cs3 g H, cs3 g J, cs3 g K⟩)) (fail)
 all_goals
  go_wp2;obtain ⟨O, T, R⟩ := zCh (put3 (w := w5) (a := .int .i64 ul) (b := .int .i64 us) (c := .slice ad ud.length cpw) V.out);refine bodyPost_ret (v := .agg #[.int .i64 ul, .int .i64 us, .slice ad ud.length cpw]) (by simp [results, Tryz.results103, go_sem, O, T, R]) rfl ⟨rfl, (zAi (zAi (zAi B (by omega)) (by omega)) (by omega)).drew⟩
end Go.Proofs.YtcocbafhcpdheaaGreatDoor
