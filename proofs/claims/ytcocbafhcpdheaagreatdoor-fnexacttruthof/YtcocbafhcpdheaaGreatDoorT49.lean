import Derived.Test.YtcocbafhcpdheaaGreatDoorT00Box
import Derived.Test.YtcocbafhcpdheaaGreatDoorT48
namespace Go.Proofs.YtcocbafhcpdheaaGreatDoor
set_option maxHeartbeats 16000000
set_option maxRecDepth 20000
open Go.ChangeShapes Go.WideShapes Go.ChangeAt Go.RowKit
set_option linter.unusedVariables false
theorem zOX (cs : List Value) (x : zA2) (w : World) (h : zCr.rd w cs x) (hbk : zAX.bk x ≤ 1048576) :
    Calls Tryz.prog 49 #[zBq cs] w fun e w' => e = .returned (.bool (zFj x)) ∧ Below w.heap.size w w' := by
 rw [← fab_eq];exact zHx cs x w h hbk
variable {α : Type}
set_option linter.unusedSimpArgs false
theorem zIA {α : Type} {e : TypeId} {R : Rep α} (w : World) (cur : Array Value) (n : Nat) (hm : n ≤ maxLen) (hs : cur.size = n * R.size) : zAI (slR e R) w (w.alloc (.cells cur e)) [.slice (some ⟨w.heap.size, 0, none⟩) 0 n] [] := by
 refine ⟨⟨_, [], fun _ => False, rfl, World.ownsRow_made (base := 0) (e := e) (size := R.size) w cur n (Nat.zero_le _) hm hs, fun g hg => ?_, fun _ h => h.elim, rfl⟩, zAf w _⟩;simp [Value.ownBlock] at hg
 subst hg;exact ⟨⟨Nat.le_refl _, by simp⟩, fun h => h⟩
theorem zMW (a : Addr) (xs : List Int) (cap : Nat) (w : World) (h : zDr w (some a) xs) (hm : xs.length ≤ 1048576) :
    Calls Tryz.prog 53 #[.slice (some a) xs.length cap] w fun e w' => ∃ v, e = .returned v ∧ zIJ w w' v xs := by
 obtain ⟨A, s, m, n, l⟩ := info_parts Tryz.infoI;have i : (w.alloc (.cells #[] 2)).ownsRow w.heap.size 2 1 (.slice (some ⟨w.heap.size, 0, none⟩) 0 0) 0 [] := World.ownsRow_lit _ #[] 0 (Nat.le_refl _) (Nat.zero_le _) rfl;go_enter Tryz.func53, Tryz.ntmps53;go_wp2_with (at_builtin; refine wpList_append_own _ rfl _ _ 37 rfl w.heap.size 2 A (.int .i64 0) 1 8 Tryz.underlying37 s m n l rfl (by decide) _ _ _ rfl i a xs.length cap (xs.map (Value.int .i64)) rfl (by simp) ?c1 ?c2 ?c3 ?c4 ?c5 ?_)
 case c1 =>
  intro j u D;obtain ⟨f, rfl⟩ := List.getElem?_eq_some_iff.1 D;simp at f
  rcases h with rfl | ⟨b, k, p, y⟩
  ·simp at f
  simp only [Option.some.injEq] at p;subst p;have r := y j f;rw [show (⟨b, k, none⟩ : Addr).add j = ⟨b, k + j, none⟩ from by simp [Addr.add], World.cell?_alloc_past _ _ _ (World.block_lt_of_cell? w _ r), r];simp [List.getD_eq_getElem?_getD, f]
 case c2 => intro u o; simp at o; obtain ⟨x, _, rfl⟩ := o; rfl
 case c3 => unfold maxLen; omega
 case c4 => omega
 case c5 => simp
 ·intro q B d c g;have z : q ≠ .slice none 0 0 := g;have C : Hid (zIJ w B q xs) := zHN d c z;clear d c g i;go_wp2;go_ret
  exact ⟨_, rfl, C.out⟩
theorem zMX (cap : Nat) (w : World) : Calls Tryz.prog 53 #[.slice none 0 cap] w fun e w' => ∃ v, e = .returned v ∧ zAI zA0 w w' [v] [] := by
 obtain ⟨f, b, c, g, d⟩ := info_parts Tryz.infoI;have a : (w.alloc (.cells #[] 2)).ownsRow w.heap.size 2 1 (.slice (some ⟨w.heap.size, 0, none⟩) 0 0) 0 [] := World.ownsRow_lit _ #[] 0 (Nat.le_refl _) (Nat.zero_le _) rfl;go_enter Tryz.func53, Tryz.ntmps53;go_wp2_with (at_builtin; refine zCK rfl _ _ 37 rfl w.heap.size 2 f 1 Tryz.underlying37 b cap _ _ _ rfl a rfl ?_)
 go_ret
 exact ⟨_, rfl, zDe w⟩
theorem zMY (a : Option Addr) (xs : List Int) (cap : Nat) (w : World) (h : zA4 zAG w a xs) (hm : xs.length ≤ 1048576) :
    Calls Tryz.prog 53 #[.slice a xs.length cap] w fun e w' => ∃ v, e = .returned v ∧ zAI zA0 w w' [v] xs := by
 cases a with
 | some ad => exact (zMW ad xs cap w (zBv h) hm).mono fun e w' ⟨v, h1, h2⟩ => ⟨v, h1, zDF h2 (zHO h)⟩
 | none =>
  rcases h with rfl | ⟨b, d, c, f, _⟩
  ·exact zMX cap w
  ·cases f
theorem zCL {α : Type} {Q : Rep α} {w u wr : World} {cs : List Value} {xs : α} (B : Below w.heap.size w u) (M : zAI Q u wr cs xs) : zAI Q w wr cs xs :=
 ⟨Q.own_mono M.1 (zAZ B.size (Nat.le_refl _)), zAa B M.2⟩
theorem zOY (x : zA2) (a1 : Option Addr) (c1 : Nat) (b1 : Option Addr) (d1 : Nat) (a2 : Option Addr) (c2 : Nat) (a3 : Option Addr) (c3 : Nat) (b3 : Option Addr) (d3 : Nat) (a4 : Option Addr) (c4 : Nat) (a5 : Option Addr) (c5 : Nat) (w : World) (R : FabRd w x a1 c1 b1 d1 a2 c2 a3 c3 b3 d3 a4 c4 a5 c5) (h : zCr.rd w [.int .i64 x.1.1, .int .i64 x.1.2.1, .int .i64 x.1.2.2.1, .int .i64 x.1.2.2.2, .slice a1 x.2.1.1.length c1, .slice b1 x.2.1.2.length d1, .slice a2 x.2.2.1.length c2, .slice a3 x.2.2.2.1.1.length c3, .int .i64 x.2.2.2.1.2.1, .bool x.2.2.2.1.2.2.1, .slice b3 x.2.2.2.1.2.2.2.length d3, .slice a4 x.2.2.2.2.1.length c4, .slice a5 x.2.2.2.2.2.length c5] x) (hbk : zAX.bk x ≤ 1048576) (k : Int) :
    Calls Tryz.prog 27 #[.agg #[.int .i64 x.1.1, .int .i64 x.1.2.1, .int .i64 x.1.2.2.1, .int .i64 x.1.2.2.2, .slice a1 x.2.1.1.length c1, .slice b1 x.2.1.2.length d1, .slice a2 x.2.2.1.length c2, .slice a3 x.2.2.2.1.1.length c3, .int .i64 x.2.2.2.1.2.1, .bool x.2.2.2.1.2.2.1, .slice b3 x.2.2.2.1.2.2.2.length d3, .slice a4 x.2.2.2.2.1.length c4, .slice a5 x.2.2.2.2.2.length c5], .int .i64 k] w fun e w' => e = .returned (.bool (zI4 x k)) ∧ Below w.heap.size w w' := by
 have g : Hid _ := fun (W : World) (hb : Below w.heap.size w W) => zOX [.int .i64 x.1.1, .int .i64 x.1.2.1, .int .i64 x.1.2.2.1, .int .i64 x.1.2.2.2, .slice a1 x.2.1.1.length c1, .slice b1 x.2.1.2.length d1, .slice a2 x.2.2.1.length c2, .slice a3 x.2.2.2.1.1.length c3, .int .i64 x.2.2.2.1.2.1, .bool x.2.2.2.1.2.2.1, .slice b3 x.2.2.2.1.2.2.2.length d3, .slice a4 x.2.2.2.2.1.length c4, .slice a5 x.2.2.2.2.2.length c5] x W (zAr h hb) hbk;unfold zI4;clear R h;generalize zFj x = q1 at g ⊢;have B := Below.refl w.heap.size w;go_enter Tryz.func27, Tryz.ntmps27;go_upto_region 1 with fail
 generalize a : w.alloc _ = u1w;have F := boxH a;have i := boxB a;have j := boxL a;clear a;replace B := zAa B i;clear i;clear j;obtain ⟨Fc0, Fc1, Fc2, Fc3, Fc4, Fc5, Fc6, Fc7, Fc8, Fc9, Fc10, Fc11, Fc12⟩ := zAd F;have Flt := (ltH F);go_wp2_with fail
 clear Fc0 Fc1 Fc2 Fc3 Fc4 Fc5 Fc6 Fc7 Fc8 Fc9 Fc10 Fc11 Fc12 Flt;refine (g.out _ B).mono ?_;rintro e m ⟨rfl, c⟩;replace B := zAa B c;replace F := zAb c F;clear c;cases q1
 ·skip
  obtain ⟨Fc0, Fc1, Fc2, Fc3, Fc4, Fc5, Fc6, Fc7, Fc8, Fc9, Fc10, Fc11, Fc12⟩ := zAd F;have Flt := (ltH F);have b : Hid _ := B;clear B F;go_wp2;go_ret
  exact ⟨by simp, b.out⟩
 ·by_cases f : 0 ≤ k
  ·by_cases d : k < x.1.2.2.2
   ·skip
    obtain ⟨Fc0, Fc1, Fc2, Fc3, Fc4, Fc5, Fc6, Fc7, Fc8, Fc9, Fc10, Fc11, Fc12⟩ := zAd F;have Flt := (ltH F);have b : Hid _ := B;clear B F;go_wp2;go_ret
    exact ⟨by simp [f, d], b.out⟩
   ·skip
    obtain ⟨Fc0, Fc1, Fc2, Fc3, Fc4, Fc5, Fc6, Fc7, Fc8, Fc9, Fc10, Fc11, Fc12⟩ := zAd F;have Flt := (ltH F);have b : Hid _ := B;clear B F;go_wp2;go_ret
    exact ⟨by simp [f, d], b.out⟩
  ·have l : k < 0 := by omega
   obtain ⟨Fc0, Fc1, Fc2, Fc3, Fc4, Fc5, Fc6, Fc7, Fc8, Fc9, Fc10, Fc11, Fc12⟩ := zAd F;have Flt := (ltH F);have b : Hid _ := B;clear B F;go_wp2;go_ret
   exact ⟨by simp; omega, b.out⟩
theorem zLK {l k : Int} : (decide (0 ≤ k) && decide (k < l)) = zD7 l k := by
 unfold zD7 zA8;rw [← Bool.decide_and];exact decide_eq_decide.2 (by omega)
theorem zGY {w : World} {x : zA2} {a1 b1 a2 a3 b3 a4 a5 : Option Addr} {c1 d1 c2 c3 d3 c4 c5 : Nat} (R : FabRd w x a1 c1 b1 d1 a2 c2 a3 c3 b3 d3 a4 c4 a5 c5) : zA4 zA0 w a1 x.2.1.1 ∧ x.2.1.1.length ≤ maxLen := by
 obtain ⟨v0, v1, e, ⟨a, c, e0, l1, l2, q⟩, -⟩ := zDi R.house;simp only [List.cons.injEq, and_true] at e e0;obtain ⟨rfl, rfl⟩ := e;simp only [Value.slice.injEq] at e0;obtain ⟨rfl, -, rfl⟩ := e0;exact ⟨q, Nat.le_trans l1 l2⟩
theorem zJP {w : World} {u : zBi} {v0 v1 v2 v3 v4 v8 : Value} {ia : Option Addr} {ic : Nat} {z5 z6 : Value} (h : zAB.rd w [v0, v1, v2, v3, v4, z5, z6, .slice ia u.2.2.2.2.1.2.2.length ic, v8] u) : zA4 zAG w ia u.2.2.2.2.1.2.2 := by
 obtain ⟨y0, y1, y2, y5, y6, y7, y8, e, r0, r1, i2, i3, r4, r5⟩ := zC7 h;simp only [List.cons.injEq, and_true] at e;obtain ⟨-, -, -, -, -, rfl, rfl, rfl, -⟩ := e;obtain ⟨ad, cpw, e, -, -, -, -, q⟩ := zBz r4;simp only [List.cons.injEq, and_true, Value.slice.injEq] at e;obtain ⟨-, -, rfl, -⟩ := e;exact q
theorem ent_in {w : World} {cs : List Value} {u : zAW} (h : zBT.rd w cs u) : zAN u.1 := by
 obtain ⟨a, c, -, i0, -⟩ := zFM h;exact i0
theorem msg_at {w : World} {cs : List Value} {m : zDy} (h : zBL.rd w cs m) : ∃ (na : Option Addr) (nc : Nat), cs = [.int .i64 m.1, .int .i64 m.2.1, .int .i64 m.2.2.1, .int .i64 m.2.2.2.1, .int .i64 m.2.2.2.2.1, .slice na m.2.2.2.2.2.1.length nc, .int .i64 m.2.2.2.2.2.2] ∧ m.2.2.2.2.2.1.length ≤ nc ∧ nc ≤ maxLen ∧ zA4 zAG w na m.2.2.2.2.2.1 := by
 obtain ⟨a, c, e, -, -, -, -, -, -, l1, l2, q⟩ := zFO h;exact ⟨a, c, e, l1, l2, q⟩
def zGZ (x : zA2) (o k : Int) : Bool := if 0 ≤ o then (match x.2.2.1[o.toNat]? with
 | some u => zGg k u
 | none => false) else false
theorem zKV {x : zA2} {on : Nat} {k : Int} {u : zBi} (h : x.2.2.1[on]? = some u) : zGZ x on k = zGg k u := by
 unfold zGZ;rw [if_pos (by omega), Int.toNat_natCast, h]
theorem zOZ {x : zA2} {o k : Int} (h : zGZ x o k = false) (ho : o < (x.2.2.1.length : Int)) : zGh x o k = zHv x o k := by
 unfold zGh;by_cases h0 : 0 ≤ o
 ·obtain ⟨on, rfl⟩ : ∃ on : Nat, o = on := ⟨o.toNat, by omega⟩;obtain ⟨u, hu⟩ : ∃ u, x.2.2.1[on]? = some u := ⟨_, List.getElem?_eq_getElem (by omega)⟩;rw [zKV hu] at h;rw [if_pos h0, Int.toNat_natCast, hu];simp only
  rw [if_neg (by rw [h]; exact Bool.false_ne_true)]
 ·rw [if_neg h0]
theorem held_yes {x : zA2} {o k : Int} {t : List Int} (h : zGZ x o k = true) (ht : t = zGh x o k) : ∃ (on : Nat) (u : zBi), o = on ∧ x.2.2.1[on]? = some u ∧ t = u.2.2.2.2.1.2.2 := by
 by_cases h0 : 0 ≤ o
 ·obtain ⟨on, rfl⟩ : ∃ on : Nat, o = on := ⟨o.toNat, by omega⟩;cases hu : x.2.2.1[on]? with
  | none =>
   unfold zGZ at h;rw [if_pos h0, Int.toNat_natCast, hu] at h;cases h
  | some u =>
   rw [zKV hu] at h;refine ⟨on, u, rfl, hu, ?_⟩;rw [ht];unfold zGh;rw [if_pos h0, Int.toNat_natCast, hu];simp only
   rw [if_pos h]
 ·unfold zGZ at h;rw [if_neg h0] at h;cases h
theorem zMZ (x : zA2) (a1 : Option Addr) (c1 : Nat) (b1 : Option Addr) (d1 : Nat) (a2 : Option Addr) (c2 : Nat) (a3 : Option Addr) (c3 : Nat) (b3 : Option Addr) (d3 : Nat) (a4 : Option Addr) (c4 : Nat) (a5 : Option Addr) (c5 : Nat) (w : World) (R : FabRd w x a1 c1 b1 d1 a2 c2 a3 c3 b3 d3 a4 c4 a5 c5) (hf : zFj x = true) (hbk : zAX.bk x ≤ 1048576) (k : Int) (hk0 : 0 ≤ k) (hk1 : k < x.1.2.2.2) :
    Calls Tryz.prog 52 #[.agg #[.int .i64 x.1.1, .int .i64 x.1.2.1, .int .i64 x.1.2.2.1, .int .i64 x.1.2.2.2, .slice a1 x.2.1.1.length c1, .slice b1 x.2.1.2.length d1, .slice a2 x.2.2.1.length c2, .slice a3 x.2.2.2.1.1.length c3, .int .i64 x.2.2.2.1.2.1, .bool x.2.2.2.1.2.2.1, .slice b3 x.2.2.2.1.2.2.2.length d3, .slice a4 x.2.2.2.2.1.length c4, .slice a5 x.2.2.2.2.2.length c5], .int .i64 k] w fun e w' => ∃ v, e = .returned v ∧ zAI zA0 w w' [v] (zB5 x k) := by
 have RR : Hid (∀ W, Below w.heap.size w W → FabRd W x a1 c1 b1 d1 a2 c2 a3 c3 b3 d3 a4 c4 a5 c5) := fun W hb => zBP R hb;have HOK : Hid (∀ u, u ∈ x.2.2.1 → OkC isL zAH u.1) := fun u hu => zI5 hf hu;obtain ⟨⟨hc1, hc4⟩, hcl, -⟩ := zJM hf;obtain ⟨⟨hl1, hl16⟩, hbl⟩ := zJN hf;have hml := zOO hf;have HBO : Hid (∀ e, e ∈ x.2.1.2 → e.1 < (x.2.2.1.length : Int)) := fun e he => by have := zLI hf he; omega
 have HBK : Hid _ := hbk;obtain ⟨kn, rfl⟩ : ∃ kn : Nat, k = kn := ⟨k.toNat, by omega⟩;have hkb : kn < x.2.1.2.length := by omega
 have hkb' : (kn : Int) < (x.2.1.2.length : Int) := by omega
 have hkm : kn < x.2.1.1.length := by omega
 have hkm' : (kn : Int) < (x.2.1.1.length : Int) := by omega
 have hnl : x.2.2.2.2.1.length ≤ 9223372036854775807 := R.netl;have hcl4 : x.2.2.1.length ≤ 4 := by omega
 have B := Below.refl w.heap.size w;clear R hf hbk hk1 hml hcl hbl hc1 hc4 hl1 hl16;go_enter Tryz.func52, Tryz.ntmps52;go_upto_region 1 with fail
 have F := zAn w (.cells #[.int .i64 x.1.1, .int .i64 x.1.2.1, .int .i64 x.1.2.2.1, .int .i64 x.1.2.2.2, .slice a1 x.2.1.1.length c1, .slice b1 x.2.1.2.length d1, .slice a2 x.2.2.1.length c2, .slice a3 x.2.2.2.1.1.length c3, .int .i64 x.2.2.2.1.2.1, .bool x.2.2.2.1.2.2.1, .slice b3 x.2.2.2.1.2.2.2.length d3, .slice a4 x.2.2.2.2.1.length c4, .slice a5 x.2.2.2.2.2.length c5] 50);have bz := zAf w (.cells #[.int .i64 x.1.1, .int .i64 x.1.2.1, .int .i64 x.1.2.2.1, .int .i64 x.1.2.2.2, .slice a1 x.2.1.1.length c1, .slice b1 x.2.1.2.length d1, .slice a2 x.2.2.1.length c2, .slice a3 x.2.2.2.1.1.length c3, .int .i64 x.2.2.2.1.2.1, .bool x.2.2.2.1.2.2.1, .slice b3 x.2.2.2.1.2.2.2.length d3, .slice a4 x.2.2.2.2.1.length c4, .slice a5 x.2.2.2.2.2.length c5] 50);have zF := zAv w (.cells #[.int .i64 x.1.1, .int .i64 x.1.2.1, .int .i64 x.1.2.2.1, .int .i64 x.1.2.2.2, .slice a1 x.2.1.1.length c1, .slice b1 x.2.1.2.length d1, .slice a2 x.2.2.1.length c2, .slice a3 x.2.2.2.1.1.length c3, .int .i64 x.2.2.2.1.2.1, .bool x.2.2.2.1.2.2.1, .slice b3 x.2.2.2.1.2.2.2.length d3, .slice a4 x.2.2.2.2.1.length c4, .slice a5 x.2.2.2.2.2.length c5] 50);replace B := zAa B bz;clear bz;generalize w.alloc (.cells #[.int .i64 x.1.1, .int .i64 x.1.2.1, .int .i64 x.1.2.2.1, .int .i64 x.1.2.2.2, .slice a1 x.2.1.1.length c1, .slice b1 x.2.1.2.length d1, .slice a2 x.2.2.1.length c2, .slice a3 x.2.2.2.1.1.length c3, .int .i64 x.2.2.2.1.2.1, .bool x.2.2.2.1.2.2.1, .slice b3 x.2.2.2.1.2.2.2.length d3, .slice a4 x.2.2.2.2.1.length c4, .slice a5 x.2.2.2.2.2.length c5] 50) = u1w at B F zF ⊢;clear zF;go_wp2;go_loopw [5] (fun i wr => ∃ j : Nat, j ≤ x.2.2.1.length ∧ i = .int .i64 j ∧ NoP (zF0 kn) x.2.2.1 j ∧ Below w.heap.size w wr ∧ wr.heap[w.heap.size]? = some (.cells #[.int .i64 x.1.1, .int .i64 x.1.2.1, .int .i64 x.1.2.2.1, .int .i64 x.1.2.2.2, .slice a1 x.2.1.1.length c1, .slice b1 x.2.1.2.length d1, .slice a2 x.2.2.1.length c2, .slice a3 x.2.2.2.1.1.length c3, .int .i64 x.2.2.2.1.2.1, .bool x.2.2.2.1.2.2.1, .slice b3 x.2.2.2.1.2.2.2.length d3, .slice a4 x.2.2.2.2.1.length c4, .slice a5 x.2.2.2.2.2.length c5] 50 (0, 0))) (fun i _ => x.2.2.1.length - (intOf i).toNat)
 case atStart => exact ⟨0, Nat.zero_le _, rfl, fun i v hi => by omega, B, F⟩
 case round =>
  clear B F;obtain ⟨j, hj, rfl, hno, BB, F⟩ := hrel;obtain ⟨p0, p1, p2, p3, p4, p5, p6, p7, p8, p9, p10, p11, p12⟩ := zAd F;by_cases hlt : j < x.2.2.1.length
  ·have hlt' : (j : Int) < (x.2.2.1.length : Int) := by omega
   obtain ⟨u, hx⟩ : ∃ u, x.2.2.1[j]? = some u := ⟨_, List.getElem?_eq_getElem hlt⟩;have hmem := List.mem_of_getElem? hx;obtain ⟨bb, off, cs, ra, hrdx, hcell⟩ := zAy (RR.out w (Below.refl _ _)).cores hx;have HC := l17Has_u cs u kn w wr (HOK.out u hmem) hrdx BB;obtain ⟨ga, gc, gb, gd, ha, hc, ia, ic, ja, jc, rfl⟩ := zBd hrdx;rw [show zBq [.slice ga u.1.1.length gc, .slice gb u.1.2.length gd, .slice ha u.2.1.length hc, .int .i64 u.2.2.1, .int .i64 u.2.2.2.1, .int .i64 u.2.2.2.2.1.1, .int .i64 u.2.2.2.2.1.2.1, .slice ia u.2.2.2.2.1.2.2.length ic, .slice ja u.2.2.2.2.2.length jc] = .agg #[.slice ga u.1.1.length gc, .slice gb u.1.2.length gd, .slice ha u.2.1.length hc, .int .i64 u.2.2.1, .int .i64 u.2.2.2.1, .int .i64 u.2.2.2.2.1.1, .int .i64 u.2.2.2.2.1.2.1, .slice ia u.2.2.2.2.1.2.2.length ic, .slice ja u.2.2.2.2.2.length jc] from rfl] at HC;replace hcell := fun i v h => zAe BB (hcell i v h) (zAk (hcell i v h));obtain ⟨x0, x1, x2, x3, x4, x5, x6, x7, x8⟩ := cellsAt9 hcell rfl;subst ra;have hsm : (zCc u.1 kn).2.2.length ≤ 1048576 := Nat.le_trans (zLH (HOK.out u hmem) kn) (Nat.le_trans (zI6 hmem).1 HBK.out);have HX : Hid _ := hx;have HNO : Hid _ := hno;have HF : Hid _ := F;clear hcell hrdx hx hmem hno F;go_wp2_with fail
   clear x0 x1 x2 x3 x4 x5 x6 x7 x8 p0 p1 p2 p3 p4 p5 p6 p7 p8 p9 p10 p11 p12;refine HC.mono ?_;rintro e w9 ⟨us, rfl, hr, bq⟩;clear HC;have hr1 := hr w9 (zAa BB bq);obtain ⟨ea, ec, rfl, -, i1, -, -, -⟩ := zBz hr1;rw [show zBq [.int .i64 (zCc u.1 kn).1, .int .i64 (zCc u.1 kn).2.1, .slice ea (zCc u.1 kn).2.2.length ec] = .agg #[.int .i64 (zCc u.1 kn).1, .int .i64 (zCc u.1 kn).2.1, .slice ea (zCc u.1 kn).2.2.length ec] from rfl];have HWD : Hid (∀ W', Below w.heap.size w W' → zA4 zAG W' ea (zCc u.1 kn).2.2) := fun W' hb => by
    obtain ⟨ea', ec', e9, -, -, -, -, q⟩ := zBz (hr W' hb);simp only [List.cons.injEq, and_true, Value.slice.injEq] at e9;obtain ⟨-, -, rfl, -⟩ := e9;exact q
   replace BB := zAa BB bq;have F := zAb bq HF.out;clear hr hr1 bq HF;have HTR : Hid (zF0 kn u = true → zB5 x kn = (zCc u.1 kn).2.2) := fun hd => by unfold zB5; rw [zGV HX.out hd HNO.out]
   have hds : zF0 kn u = decide (2 ≤ (zCc u.1 kn).2.1) := rfl;generalize zCc u.1 kn = y at HWD HTR hsm hds i1 ⊢;go_upto_region 5 with fail
   have BZ := zAf w9 (.cells #[.int .i64 y.1, .int .i64 y.2.1, .slice ea y.2.2.length ec] 88);have Y := zAn w9 (.cells #[.int .i64 y.1, .int .i64 y.2.1, .slice ea y.2.2.length ec] 88);generalize w9.alloc (.cells #[.int .i64 y.1, .int .i64 y.2.1, .slice ea y.2.2.length ec] 88) = wz at BZ Y ⊢;replace BB := zAa BB BZ;replace F := zAb BZ F;obtain ⟨y0, y1, y2⟩ := zAJ Y;by_cases hd : 2 ≤ y.2.1
   ·have HTV : Hid (zB5 x kn = y.2.2) := HTR.out (by rw [hds]; exact decide_eq_true hd);have HBB : Hid _ := BB;clear F HNO HTR hds Y BZ BB;go_wp2_with fail
    refine (zEC ea y.2.2 ec _ (HWD.out _ HBB.out) hsm).mono ?_;rintro e w5 ⟨v5, rfl, M5⟩;have HM : Hid (zAI zA0 w w5 [v5] (zB5 x kn)) := by
     unfold Hid;rw [HTV.out];exact zCL HBB.out M5
    clear M5;go_wp2;go_ret
    exact ⟨_, rfl, HM.out⟩
   ·have HE : Hid _ := zI7 HNO.out HX.out (by rw [hds]; exact decide_eq_false hd);have HBF : Hid _ := And.intro BB F;clear F HNO HTR hds Y BZ BB;go_wp2;go_roundw
    case rel => exact ⟨j + 1, by omega, by go_num, HE.out, HBF.out⟩
    case measure => simp [intOf]; omega
  ·have HD : Hid (x.2.2.1.find? (zF0 kn) = none) := zGW fun i v hv => hno i v (by have := (List.getElem?_eq_some_iff.1 hv).1; omega) hv;have hge : ¬ ((j : Int) < (x.2.2.1.length : Int)) := by omega
   obtain ⟨en, hen⟩ : ∃ en, x.2.1.2[kn]? = some en := ⟨_, List.getElem?_eq_getElem hkb⟩;have HTR : Hid (zB5 x kn = zGh x en.1 kn) := by
    unfold Hid zB5 zON;rw [HD.out, Int.toNat_natCast, hen]
   have how := HBO.out en (List.mem_of_getElem? hen);obtain ⟨be, oe, ce, rae, hrde, hcelle⟩ := zAy (RR.out _ BB).book hen;obtain ⟨ga, gc, rfl⟩ := zDK hrde;have e0 := hcelle 0 _ rfl;rw [show oe + (kn * zBT.size + 0) = oe + kn * 8 from rfl] at e0;have i0 : zAN en.1 := (ent_in hrde);rw [rae] at p5;clear rae;have HF : Hid _ := F;clear hno hcelle hrde hen HD F hlt hj HBO;generalize en.1 = o at HTR how e0 i0;go_upto_region 8 with fail
   clear e0 p0 p1 p2 p3 p4 p5 p6 p7 p8 p9 p10 p11 p12;have F := HF.out;clear HF;obtain ⟨p0, p1, p2, p3, p4, p5, p6, p7, p8, p9, p10, p11, p12⟩ := zAd F;go_cut [59] (fun q wx => q = .bool (zGZ x o kn) ∧ Below w.heap.size w wx ∧ wx.heap[w.heap.size]? = some (.cells #[.int .i64 x.1.1, .int .i64 x.1.2.1, .int .i64 x.1.2.2.1, .int .i64 x.1.2.2.2, .slice a1 x.2.1.1.length c1, .slice b1 x.2.1.2.length d1, .slice a2 x.2.2.1.length c2, .slice a3 x.2.2.2.1.1.length c3, .int .i64 x.2.2.2.1.2.1, .bool x.2.2.2.1.2.2.1, .slice b3 x.2.2.2.1.2.2.2.length d3, .slice a4 x.2.2.2.2.1.length c4, .slice a5 x.2.2.2.2.2.length c5] 50 (0, 0)))
   case first =>
    by_cases ho : 0 ≤ o
    ·obtain ⟨on, rfl⟩ : ∃ on : Nat, o = on := ⟨o.toNat, by omega⟩;have hol : on < x.2.2.1.length := by omega
     have hol' : (on : Int) < (x.2.2.1.length : Int) := by omega
     obtain ⟨u, hx⟩ : ∃ u, x.2.2.1[on]? = some u := ⟨_, List.getElem?_eq_getElem hol⟩;obtain ⟨bb, off, cs, ra, hrdx, hcell⟩ := zAy (RR.out _ BB).cores hx;obtain ⟨ga, gc, gb, gd, ha, hc, ia, ic, ja, jc, rfl⟩ := zBd hrdx;obtain ⟨x0, x1, x2, x3, x4, x5, x6, x7, x8⟩ := cellsAt9 hcell rfl;subst ra;have HQ : Hid (zGZ x on kn = zGg kn u) := zKV hx;have HF : Hid _ := And.intro BB F;clear hcell hrdx hx BB F;by_cases h1 : u.2.2.2.2.1.1 = (kn : Int)
     ·by_cases h2 : 2 ≤ u.2.2.2.2.1.2.1
      ·go_wp2_with fail
       go_meet
       exact ⟨by rw [HQ.out]; simp [zGg, h1, h2], HF.out⟩
      ·go_wp2_with fail
       go_meet
       exact ⟨by rw [HQ.out]; simp [zGg, h1, h2], HF.out⟩
     ·go_wp2_with fail
      go_meet
      exact ⟨by rw [HQ.out]; simp [zGg, h1], HF.out⟩
    ·have HQ : Hid (zGZ x o kn = false) := by unfold Hid zGZ; rw [if_neg ho]
     have HF : Hid _ := And.intro BB F;clear BB F;go_wp2_with fail
     go_meet
     exact ⟨by rw [HQ.out], HF.out⟩
   case rest =>
    clear BB F p0 p1 p2 p3 p4 p5 p6 p7 p8 p9 p10 p11 p12;obtain ⟨rfl, BB, F⟩ := hcut;generalize wc = W3 at BB F ⊢;cases hq : zGZ x o kn
    ·have HTV : Hid (zB5 x kn = zHv x o kn) := by unfold Hid; rw [HTR.out, zOZ hq (by omega)]
     clear HTR hq;go_wp2;go_loopw [8] (fun i wr => ∃ j : Nat, j ≤ x.2.2.2.2.1.length ∧ i = .int .i64 j ∧ NoP (zHc o kn) x.2.2.2.2.1 j ∧ Below w.heap.size w wr ∧ wr.heap[w.heap.size]? = some (.cells #[.int .i64 x.1.1, .int .i64 x.1.2.1, .int .i64 x.1.2.2.1, .int .i64 x.1.2.2.2, .slice a1 x.2.1.1.length c1, .slice b1 x.2.1.2.length d1, .slice a2 x.2.2.1.length c2, .slice a3 x.2.2.2.1.1.length c3, .int .i64 x.2.2.2.1.2.1, .bool x.2.2.2.1.2.2.1, .slice b3 x.2.2.2.1.2.2.2.length d3, .slice a4 x.2.2.2.2.1.length c4, .slice a5 x.2.2.2.2.2.length c5] 50 (0, 0))) (fun i _ => x.2.2.2.2.1.length - (intOf i).toNat)
     case atStart => exact ⟨0, Nat.zero_le _, rfl, fun i v hi => by omega, BB, F⟩
     case round =>
      clear BB F;obtain ⟨j, hj, rfl, hno, BB, F⟩ := hrel;obtain ⟨p0, p1, p2, p3, p4, p5, p6, p7, p8, p9, p10, p11, p12⟩ := zAd F;by_cases hlt : j < x.2.2.2.2.1.length
      ·have hlt' : (j : Int) < (x.2.2.2.2.1.length : Int) := by omega
       obtain ⟨m, hx⟩ : ∃ m, x.2.2.2.2.1[j]? = some m := ⟨_, List.getElem?_eq_getElem hlt⟩;obtain ⟨bb, off, cs, ra, hrdx, hcell⟩ := zAy (RR.out _ BB).net hx;obtain ⟨na, nc, rfl, l1, l2, HMD⟩ := msg_at hrdx;obtain ⟨x0, x1, x2, x3, x4, x5, x6⟩ := cellsAt7 hcell rfl;subst ra;have hml2 : m.2.2.2.2.2.1.length ≤ 9223372036854775807 := Nat.le_trans l1 l2;have hsm : m.2.2.2.2.2.1.length ≤ 1048576 := Nat.le_trans (net_bk (List.mem_of_getElem? hx)) HBK.out;have HX : Hid _ := hx;have HNO : Hid _ := hno;have HMR : Hid _ := HMD;have HF : Hid _ := F;clear hcell hrdx hx hno F HMD l1 l2;go_upto_region 14 with fail
       clear x0 x1 x2 x3 x4 x5 x6 p0 p1 p2 p3 p4 p5 p6 p7 p8 p9 p10 p11 p12;have F := HF.out;clear HF;have BZ := zAf wr (.cells #[.int .i64 m.1, .int .i64 m.2.1, .int .i64 m.2.2.1, .int .i64 m.2.2.2.1, .int .i64 m.2.2.2.2.1, .slice na m.2.2.2.2.2.1.length nc, .int .i64 m.2.2.2.2.2.2] 119);have Y := zAn wr (.cells #[.int .i64 m.1, .int .i64 m.2.1, .int .i64 m.2.2.1, .int .i64 m.2.2.2.1, .int .i64 m.2.2.2.2.1, .slice na m.2.2.2.2.2.1.length nc, .int .i64 m.2.2.2.2.2.2] 119);generalize wr.alloc (.cells #[.int .i64 m.1, .int .i64 m.2.1, .int .i64 m.2.2.1, .int .i64 m.2.2.2.1, .int .i64 m.2.2.2.2.1, .slice na m.2.2.2.2.2.1.length nc, .int .i64 m.2.2.2.2.2.2] 119) = wz at BZ Y ⊢;replace BB := zAa BB BZ;replace F := zAb BZ F;have HMD : Hid (zA4 zAG wz na m.2.2.2.2.2.1) := zAm HMR.out BZ;obtain ⟨y0, y1, y2, y3, y4, y5, y6⟩ := zAQ Y;have HF : Hid _ := And.intro BB (And.intro F (And.intro Y HMD.out));clear BB F Y BZ HMR HMD;go_cut [105] (fun q wx => q = .bool (zHc o kn m) ∧ wx = wz)
       case first =>
        by_cases h8 : m.2.2.2.1 = 8
        ·by_cases h4 : m.2.2.2.2.1 = (kn : Int)
         ·by_cases h5 : 0 < m.2.2.2.2.2.1.length
          ·have h5' : (0 : Int) < (m.2.2.2.2.2.1.length : Int) := by omega
           by_cases h1 : m.2.1 = o
           ·go_wp2_with fail
            go_meet
            exact ⟨by simp [zHc, h8, h4, h5, h1], rfl⟩
           ·go_wp2_with fail
            go_meet
            exact ⟨by simp [zHc, h8, h4, h5, h1], rfl⟩
          ·have h5' : ¬ (0 : Int) < (m.2.2.2.2.2.1.length : Int) := by omega
           go_wp2_with fail
           go_meet
           exact ⟨by simp [zHc, h5], rfl⟩
         ·go_wp2_with fail
          go_meet
          exact ⟨by simp [zHc, h4], rfl⟩
        ·by_cases h3 : m.2.2.2.1 = 3
         ·by_cases h4 : m.2.2.2.2.1 = (kn : Int)
          ·by_cases h5 : 0 < m.2.2.2.2.2.1.length
           ·have h5' : (0 : Int) < (m.2.2.2.2.2.1.length : Int) := by omega
            by_cases h1 : m.2.1 = o
            ·go_wp2_with fail
             go_meet
             exact ⟨by simp [zHc, h3, h4, h5, h1], rfl⟩
            ·go_wp2_with fail
             go_meet
             exact ⟨by simp [zHc, h3, h4, h5, h1], rfl⟩
           ·have h5' : ¬ (0 : Int) < (m.2.2.2.2.2.1.length : Int) := by omega
            go_wp2_with fail
            go_meet
            exact ⟨by simp [zHc, h5], rfl⟩
          ·go_wp2_with fail
           go_meet
           exact ⟨by simp [zHc, h4], rfl⟩
         ·go_wp2_with fail
          go_meet
          exact ⟨by simp [zHc, h8, h3], rfl⟩
       case rest =>
        obtain ⟨rfl, rfl⟩ := hcut;obtain ⟨BB, F, Y, HMD⟩ := HF.out;cases hq : zHc o kn m
        ·have HE : Hid _ := zI7 HNO.out HX.out hq;have HBF : Hid _ := And.intro BB F;clear F Y HMD BB y0 y1 y2 y3 y4 y5 y6 HNO;go_wp2;go_roundw
         case rel => exact ⟨j + 1, by omega, by go_num, HE.out, HBF.out⟩
         case measure => simp [intOf]; omega
        ·have HTW : Hid (zB5 x kn = m.2.2.2.2.2.1) := by unfold Hid; rw [HTV.out]; unfold zHv; rw [zGV HX.out hq HNO.out]
         have HMM : Hid _ := HMD;have HBB : Hid _ := BB;clear F Y HMD BB HNO;go_wp2_with fail
         refine (zEC na m.2.2.2.2.2.1 nc _ HMM.out hsm).mono ?_;rintro e w5 ⟨v5, rfl, M5⟩;have HM : Hid (zAI zA0 w w5 [v5] (zB5 x kn)) := by
          unfold Hid;rw [HTW.out];exact zCL HBB.out M5
         clear M5;go_wp2;go_ret
         exact ⟨_, rfl, HM.out⟩
      ·have HN : Hid (x.2.2.2.2.1.find? (zHc o kn) = none) := zGW fun i v hv => hno i v (by have := (List.getElem?_eq_some_iff.1 hv).1; omega) hv;have hge2 : ¬ ((j : Int) < (x.2.2.2.2.1.length : Int)) := by omega
       obtain ⟨d, hd⟩ : ∃ d, x.2.1.1[kn]? = some d := ⟨_, List.getElem?_eq_getElem hkm⟩;have HTW : Hid (zB5 x kn = d) := by
        unfold Hid;rw [HTV.out];unfold zHv;rw [HN.out, Int.toNat_natCast, List.getD_eq_getElem?_getD, hd];rfl
       obtain ⟨bm, om, cm, ram, ⟨aj, cj, rfl, -, -, hrdm⟩, hcellm⟩ := zAy (zGY (RR.out _ BB)).1 hd;have m0 := hcellm 0 _ rfl;rw [show om + (kn * zA0.size + 0) = om + kn from by rw [show zA0.size = 1 from rfl]; omega] at m0;have hsm : d.length ≤ 1048576 := Nat.le_trans (mem_bk (List.mem_of_getElem? hd)) HBK.out;subst ram;have HMM : Hid _ := hrdm;have HBB : Hid _ := BB;clear hcellm hrdm hd hno F HN BB;go_wp2_with fail
       refine (zEC aj d cj _ HMM.out hsm).mono ?_;rintro e w5 ⟨v5, rfl, M5⟩;have HM : Hid (zAI zA0 w w5 [v5] (zB5 x kn)) := by
        unfold Hid;rw [HTW.out];exact zCL HBB.out M5
       clear M5;go_wp2;go_ret
       exact ⟨_, rfl, HM.out⟩
    ·obtain ⟨on, u, rfl, hx, HTV⟩ := held_yes hq HTR.out;have hol := (List.getElem?_eq_some_iff.1 hx).1;have hol' : (on : Int) < (x.2.2.1.length : Int) := by omega
     obtain ⟨bb, off, cs, ra, hrdx, hcell⟩ := zAy (RR.out _ BB).cores hx;have hsm : u.2.2.2.2.1.2.2.length ≤ 1048576 := Nat.le_trans (zI6 (List.mem_of_getElem? hx)).2 HBK.out;obtain ⟨ga, gc, gb, gd, ha, hc, ia, ic, ja, jc, rfl⟩ := zBd hrdx;have HMM : Hid _ := zJP hrdx;obtain ⟨x0, x1, x2, x3, x4, x5, x6, x7, x8⟩ := cellsAt9 hcell rfl;subst ra;obtain ⟨p0, p1, p2, p3, p4, p5, p6, p7, p8, p9, p10, p11, p12⟩ := zAd F;have HBB : Hid _ := BB;have HTW : Hid _ := HTV;clear hcell hrdx hx F BB HTR hq HTV;go_wp2_with fail
     refine (zEC ia u.2.2.2.2.1.2.2 ic _ HMM.out hsm).mono ?_;rintro e w5 ⟨v5, rfl, M5⟩;have HM : Hid (zAI zA0 w w5 [v5] (zB5 x kn)) := by
      unfold Hid;rw [HTW.out];exact zCL HBB.out M5
     clear M5;go_wp2;go_ret
     exact ⟨_, rfl, HM.out⟩
end Go.Proofs.YtcocbafhcpdheaaGreatDoor
