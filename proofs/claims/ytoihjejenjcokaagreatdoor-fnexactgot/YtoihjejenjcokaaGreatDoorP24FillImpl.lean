import Derived.Test.YtoihjejenjcokaaGreatDoorP00Box
import Derived.Test.YtoihjejenjcokaaGreatDoorP23OkSmall
import Derived.Test.YtoihjejenjcokaaGreatDoorP21Ops
import Derived.Test.YtoihjejenjcokaaGreatDoorP18SpecCopy
import Derived.Test.YtoihjejenjcokaaGreatDoorP16CopyFacts
import Derived.Test.YtoihjejenjcokaaGreatDoorP15AppAny
import Derived.Test.YtoihjejenjcokaaGreatDoorP22CorePlain
import Derived.Test.YtoihjejenjcokaaGreatDoorP02Nums
namespace Go.Proofs.YtoihjejenjcokaaGreatDoor
set_option maxHeartbeats 8000000
set_option maxRecDepth 8000
open Go.ChangeShapes Go.WideShapes Go.ChangeAt Go.RowKit
set_option linter.unusedVariables false
theorem zFH {w w4 : World} {S1 S2 : zAX} {u v : Value} {c : zAu} (r : Nat) (hr : w.heap.size ≤ r) (N1 : zBu.own w4 S1 [u] c.1) (N2 : zA5.own w4 S2 [v] c.2) (a1 : ∀ k, S1 k → r + 1 ≤ k ∧ k < w4.heap.size) (a2 : ∀ k, S2 k → r + 1 ≤ k ∧ k < w4.heap.size) (dd : Dis S1 S2) (B : Below w.heap.size w w4) :
    zAY zAB w ((w4.setCell ⟨r, 0, none⟩ u).setCell ⟨r, 1, none⟩ v) [u, v] c := by
 refine ⟨zCd (S1 := S1) (S2 := S2) (zAl (zAl N1 ?_) ?_) (zAl (zAl N2 ?_) ?_) ?_ ?_ dd, zAq (zAq B hr) hr⟩
 ·exact fun h => by have := (a1 _ h).1; omega
 ·exact fun h => by have := (a1 _ h).1; omega
 ·exact fun h => by have := (a2 _ h).1; omega
 ·exact fun h => by have := (a2 _ h).1; omega
 ·intro x h
  exact ⟨by have := (a1 _ h).1; omega, by have := (a1 _ h).2; simp; omega⟩
 ·intro x h
  exact ⟨by have := (a2 _ h).1; omega, by have := (a2 _ h).2; simp; omega⟩
theorem three_at {w : World} {o1 o2 o3 : Obj} : (((w.alloc o1).alloc o2).alloc o3).heap[w.heap.size]? = some o1 ∧ (((w.alloc o1).alloc o2).alloc o3).heap[w.heap.size + 1]? = some o2 ∧ (((w.alloc o1).alloc o2).alloc o3).heap[w.heap.size + 1 + 1]? = some o3 ∧ Below w.heap.size w (((w.alloc o1).alloc o2).alloc o3) ∧ (((w.alloc o1).alloc o2).alloc o3).heap.size = w.heap.size + 3 := by
 have h2 := zAK o3 (zAy (w.alloc o1) o2)
 have h3 := zAy ((w.alloc o1).alloc o2) o3
 rw [zAp] at h2
 rw [zAp, zAp] at h3
 exact ⟨zAK o3 (zAK o2 (zAy w o1)), h2, h3, zAb (zAb (zAf w o1) (zAf _ o2)) (zAf _ o3), by simp⟩
theorem zHw (a b : Option Addr) (c : zAu) (cap cp : Nat) (l st : Int) (d : List Int) (ad : Option Addr) (cpw : Nat) (w : World) (h1 : zBh zBl w a c.1) (h2 : zBh zBC w b c.2) (m1 : c.1.length ≤ maxLen) (m2 : c.2.length ≤ maxLen) (m3 : ∀ row ∈ c.1, row.length ≤ maxLen) (i1 : zBk l) (i2 : zBk st) (hd : zBh zBC w ad d) (hdl : d.length ≤ 1048576) :
    Calls Tryz.prog 105 #[.agg #[.slice a c.1.length cap, .slice b c.2.length cp], .agg #[.int .i64 l, .int .i64 st, .slice ad d.length cpw]] w fun e w' => ∃ av cv bv dv, e = .returned (.tuple #[.agg #[.slice av (zB1 c (l, st, d)).1.1.length cv, .slice bv (zB1 c (l, st, d)).1.2.length dv], .bool (zB1 c (l, st, d)).2]) ∧
     zAY zAB w w' [.slice av (zB1 c (l, st, d)).1.1.length cv, .slice bv (zB1 c (l, st, d)).1.2.length dv] (zB1 c (l, st, d)).1 := by
 have HOK : Hid (∀ W, Below w.heap.size w W → Calls Tryz.prog 64 #[.agg #[.slice a c.1.length cap, .slice b c.2.length cp]] W fun e w' => e = .returned (.bool (okB isL zAJ c)) ∧ Below W.heap.size W w') := fun W hb =>
  zDk a b c cap cp W (zA7 h1 fun k hk => hb.block k hk) (zA7 h2 fun k hk => hb.block k hk) m1 m2 m3
 have HF : Hid (∀ W, Below w.heap.size w W → Calls Tryz.prog 96 #[.agg #[.int .i64 l, .int .i64 st, .slice ad d.length cpw]] W fun e w' => e = .returned (.bool (zBi isL (l, st, d))) ∧ Below W.heap.size W w') := fun W hb =>
  zDw l st d ad cpw W (zA7 hd fun k hk => hb.block k hk)
 have HD : Hid (∀ W, Below w.heap.size w W → zBh zBC W ad d) := fun W hb => zA7 hd fun k hk => hb.block k hk
 obtain ⟨X, V, Y, B, e0⟩ := three_at (w := w) (o1 := (.cells #[.slice a c.1.length cap, .slice b c.2.length cp] 37)) (o2 := (.cells #[.int .i64 l, .int .i64 st, .slice ad d.length cpw] 39)) (o3 := (.cells #[.slice none 0 0, .slice none 0 0] 37))
 clear hd
 cases hok : okB isL zAJ c
 ·rw [hok] at HOK
  rw [fill_bad hok]
  show Calls Tryz.prog 105 _ w fun e w' => ∃ av cv bv dv, e = .returned (.tuple #[.agg #[.slice av 0 cv, .slice bv 0 dv], .bool false]) ∧ zAY zAB w w' [.slice av 0 cv, .slice bv 0 dv] (([], []) : zAu)
  clear h1 h2 m1 m2 m3 HF HD V
  go_enter Tryz.func105, Tryz.ntmps105
  go_wp2_with fail
  generalize ((w.alloc (.cells #[.slice a c.1.length cap, .slice b c.2.length cp] 37)).alloc (.cells #[.int .i64 l, .int .i64 st, .slice ad d.length cpw] 39)).alloc (.cells #[.slice none 0 0, .slice none 0 0] 37) = W0 at X Y B e0 ⊢
  refine (HOK.out _ B).mono ?_
  rintro e w1 ⟨rfl, b1⟩
  replace B := zAb B b1
  replace Y := zAa b1 Y
  clear b1 X HOK
  obtain ⟨y0, y1⟩ := zAx Y
  obtain ⟨f0, f1⟩ := zBW Y
  have HY : Hid _ := Y
  clear Y
  go_wp2
  obtain ⟨r0, r1⟩ := zBc (put2 (a := .slice none 0 0) (b := .slice none 0 0) HY.out)
  refine bodyPost_ret (v := .tuple #[.agg #[.slice none 0 0, .slice none 0 0], .bool false]) (by simp [results, Tryz.results105, go_sem, r0, r1]) rfl ⟨none, 0, none, 0, rfl, zJl _ _, zAq (zAq B (by omega)) (by omega)⟩
 ·have hokc := zCK.1 hok
  rw [hok] at HOK
  obtain ⟨k1, k2, k3⟩ := zIv hokc
  obtain ⟨hp4, mw, hm4, hrw⟩ := zMV hokc
  have CP : Hid (∀ W, Below w.heap.size w W → Calls Tryz.prog 69 #[.agg #[.slice a c.1.length cap, .slice b c.2.length cp]] W fun e w' => ∃ av cv bv dv, e = .returned (.agg #[.slice av c.1.length cv, .slice bv c.2.length dv]) ∧ zAY zAB W w' [.slice av c.1.length cv, .slice bv c.2.length dv] c) := fun W hb =>
   zEN a b c cap cp mw W (zA7 h1 fun k hk => hb.block k hk) (zA7 h2 fun k hk => hb.block k hk) hp4 hm4 hrw (by omega) (fun row hr u hu => (k3 row hr).2 u hu)
  clear h1 h2 m1 m2 m3 hp4 hm4 hrw
  cases hfl : zBi isL (l, st, d)
  ·rw [hfl] at HF
   rw [zFz hokc hfl]
   clear hokc hok k1 k2 k3 HD
   go_enter Tryz.func105, Tryz.ntmps105
   go_wp2_with fail
   generalize ((w.alloc (.cells #[.slice a c.1.length cap, .slice b c.2.length cp] 37)).alloc (.cells #[.int .i64 l, .int .i64 st, .slice ad d.length cpw] 39)).alloc (.cells #[.slice none 0 0, .slice none 0 0] 37) = W0 at X V Y B e0 ⊢
   refine (HOK.out _ B).mono ?_
   rintro e w1 ⟨rfl, b1⟩
   have z1 := b1.size
   replace B := zAb B b1
   replace Y := zAa b1 Y
   replace V := zAa b1 V
   replace X := zAa b1 X
   clear b1 HOK
   obtain ⟨x0, x1⟩ := zAx X
   go_wp2_with fail
   refine (CP.out _ B).mono ?_
   rintro e w2 ⟨av, cv, bv, dv, rfl, mm⟩
   have z2 := mm.2.size
   obtain ⟨u', v', S1, S2, he, o1, o2, a1, a2, dd⟩ := zCe mm.1
   simp only [List.cons.injEq, and_true] at he
   obtain ⟨rfl, rfl⟩ := he
   replace B := zAb B mm.2
   replace Y := zAa mm.2 Y
   replace V := zAa mm.2 V
   clear mm CP X x0 x1
   obtain ⟨v0, v1, v2⟩ := zAg V
   have lv := (Array.getElem?_eq_some_iff.1 V).1
   go_wp2_with fail
   have O := zAy w2 (.cells #[.slice av c.1.length cv, .slice bv c.2.length dv] 37)
   have bx := zAf w2 (.cells #[.slice av c.1.length cv, .slice bv c.2.length dv] 37)
   replace B := zAb B bx
   replace Y := zAa bx Y
   replace V := zAa bx V
   replace o1 := zBQ (.cells #[.slice av c.1.length cv, .slice bv c.2.length dv] 37) o1
   replace o2 := zBQ (.cells #[.slice av c.1.length cv, .slice bv c.2.length dv] 37) o2
   have e3 : (w2.alloc (.cells #[.slice av c.1.length cv, .slice bv c.2.length dv] 37)).heap.size = w2.heap.size + 1 := by simp
   clear bx v0 v1 v2 lv
   generalize w2.alloc (.cells #[.slice av c.1.length cv, .slice bv c.2.length dv] 37) = w3 at B Y V O o1 o2 e3 ⊢
   refine (HF.out _ B).mono ?_
   rintro e w4 ⟨rfl, b1⟩
   have z4 := b1.size
   replace B := zAb B b1
   replace Y := zAa b1 Y
   replace V := zAa b1 V
   replace O := zAa b1 O
   replace o1 := zBu.own_keep o1 (zAh b1)
   replace o2 := zA5.own_keep o2 (zAh b1)
   clear b1 HF
   obtain ⟨y0, y1⟩ := zAx Y
   obtain ⟨f0, f1⟩ := zBW Y
   obtain ⟨p0, p1'⟩ := zAx O
   have HK : Hid _ := And.intro o1 (And.intro o2 (And.intro Y B))
   have HA : Hid _ := And.intro a1 (And.intro a2 dd)
   clear o1 o2 O Y V B a1 a2 dd
   go_wp2
   obtain ⟨o1, o2, Y, B⟩ := HK.out
   obtain ⟨a1, a2, dd⟩ := HA.out
   obtain ⟨r0, r1⟩ := zBc (put2 (a := .slice av c.1.length cv) (b := .slice bv c.2.length dv) Y)
   refine bodyPost_ret (v := .tuple #[.agg #[.slice av c.1.length cv, .slice bv c.2.length dv], .bool false]) (by simp [results, Tryz.results105, go_sem, r0, r1]) rfl ⟨av, cv, bv, dv, rfl, zFH (w.heap.size + 1 + 1) (by omega) o1 o2 (fun k h => ?_) (fun k h => ?_) dd B⟩
   ·have := (a1 k h).1
    have := (a1 k h).2
    exact ⟨by omega, by omega⟩
   ·have := (a2 k h).1
    have := (a2 k h).2
    exact ⟨by omega, by omega⟩
  ·rw [hfl] at HF
   have hl15 := zBY hfl
   simp only at hl15
   have hbw : zAQ l 0 15 = true := by simp [zAQ]; omega
   have HRM : Hid (∀ (av bv : Option Addr) (cv dv : Nat) (W : World), zBh zBl W av c.1 → Calls Tryz.prog 132 #[.agg #[.slice av c.1.length cv, .slice bv c.2.length dv], .int .i64 l] W fun e w' => e = .returned (.tuple #[.agg #[.int .i64 ((zAF c l : Nat) : Int), .int .i64 (zGc (zB2 c l))], .bool (zB2 c l).isSome]) ∧ Below W.heap.size W w') :=
    fun av bv cv dv W hr => by
     have := zIZ av bv c cv dv l W hokc hr (by omega)
     rwa [roomP_eq hokc hbw] at this
   cases hpn : zB2 c l with
   | none =>
    rw [zDp (u := (l, st, d)) hokc hpn]
    rw [hpn] at HRM
    clear hokc hok k1 k2 k3 HD hl15 hbw
    generalize ((zAF c l : Nat) : Int) = p1 at HRM
    generalize zGc none = p2 at HRM
    go_enter Tryz.func105, Tryz.ntmps105
    go_wp2_with fail
    generalize ((w.alloc (.cells #[.slice a c.1.length cap, .slice b c.2.length cp] 37)).alloc (.cells #[.int .i64 l, .int .i64 st, .slice ad d.length cpw] 39)).alloc (.cells #[.slice none 0 0, .slice none 0 0] 37) = W0 at X V Y B e0 ⊢
    refine (HOK.out _ B).mono ?_
    rintro e w1 ⟨rfl, b1⟩
    have z1 := b1.size
    replace B := zAb B b1
    replace Y := zAa b1 Y
    replace V := zAa b1 V
    replace X := zAa b1 X
    clear b1 HOK
    obtain ⟨x0, x1⟩ := zAx X
    go_wp2_with fail
    refine (CP.out _ B).mono ?_
    rintro e w2 ⟨av, cv, bv, dv, rfl, mm⟩
    have z2 := mm.2.size
    obtain ⟨u', v', S1, S2, he, o1, o2, a1, a2, dd⟩ := zCe mm.1
    simp only [List.cons.injEq, and_true] at he
    obtain ⟨rfl, rfl⟩ := he
    replace B := zAb B mm.2
    replace Y := zAa mm.2 Y
    replace V := zAa mm.2 V
    clear mm CP X x0 x1
    obtain ⟨v0, v1, v2⟩ := zAg V
    have lv := (Array.getElem?_eq_some_iff.1 V).1
    go_wp2_with fail
    have O := zAy w2 (.cells #[.slice av c.1.length cv, .slice bv c.2.length dv] 37)
    have bx := zAf w2 (.cells #[.slice av c.1.length cv, .slice bv c.2.length dv] 37)
    replace B := zAb B bx
    replace Y := zAa bx Y
    replace V := zAa bx V
    replace o1 := zBQ (.cells #[.slice av c.1.length cv, .slice bv c.2.length dv] 37) o1
    replace o2 := zBQ (.cells #[.slice av c.1.length cv, .slice bv c.2.length dv] 37) o2
    have e3 : (w2.alloc (.cells #[.slice av c.1.length cv, .slice bv c.2.length dv] 37)).heap.size = w2.heap.size + 1 := by simp
    clear bx v0 v1 v2 lv
    generalize w2.alloc (.cells #[.slice av c.1.length cv, .slice bv c.2.length dv] 37) = w3 at B Y V O o1 o2 e3 ⊢
    refine (HF.out _ B).mono ?_
    rintro e w4 ⟨rfl, b1⟩
    have z4 := b1.size
    replace B := zAb B b1
    replace Y := zAa b1 Y
    replace V := zAa b1 V
    replace O := zAa b1 O
    replace o1 := zBu.own_keep o1 (zAh b1)
    replace o2 := zA5.own_keep o2 (zAh b1)
    clear b1 HF
    obtain ⟨v0, v1, v2⟩ := zAg V
    obtain ⟨p0, p1'⟩ := zAx O
    go_wp2_with fail
    clear v0 v1 v2 p0 p1'
    obtain ⟨a9, c9, e9, hrd⟩ := zIu o1
    simp only [Value.slice.injEq, true_and] at e9
    obtain ⟨rfl, rfl⟩ := e9
    refine (HRM.out _ _ _ _ _ hrd).mono ?_
    rintro e w5 ⟨rfl, b1⟩
    have z5 := b1.size
    replace B := zAb B b1
    replace Y := zAa b1 Y
    replace O := zAa b1 O
    replace o1 := zBu.own_keep o1 (zAh b1)
    replace o2 := zA5.own_keep o2 (zAh b1)
    obtain ⟨y0, y1⟩ := zAx Y
    obtain ⟨f0, f1⟩ := zBW Y
    obtain ⟨p0, p1'⟩ := zAx O
    have ly := (Array.getElem?_eq_some_iff.1 Y).1
    have lo := (Array.getElem?_eq_some_iff.1 O).1
    have HK : Hid _ := And.intro o1 (And.intro o2 (And.intro Y B))
    have HA : Hid _ := And.intro a1 (And.intro a2 dd)
    clear o1 o2 O Y V B a1 a2 dd b1 hrd HRM
    go_wp2
    obtain ⟨o1, o2, Y, B⟩ := HK.out
    obtain ⟨a1, a2, dd⟩ := HA.out
    obtain ⟨r0, r1⟩ := zBc (zAK (.cells #[.int .i64 p1, .int .i64 p2] 126) (put2 (a := .slice av c.1.length cv) (b := .slice bv c.2.length dv) Y))
    refine bodyPost_ret (v := .tuple #[.agg #[.slice av c.1.length cv, .slice bv c.2.length dv], .bool false]) (by simp [results, Tryz.results105, go_sem, r0, r1]) rfl ⟨av, cv, bv, dv, rfl, madeR_on (zFH (w.heap.size + 1 + 1) (by omega) o1 o2 (fun k h => ?_) (fun k h => ?_) dd B) (zAf _ _)⟩
    ·have := (a1 k h).1
     have := (a1 k h).2
     exact ⟨by omega, by omega⟩
    ·have := (a2 k h).1
     have := (a2 k h).2
     exact ⟨by omega, by omega⟩
   | some fi =>
    obtain ⟨uw, huw⟩ := put_lt hpn
    obtain ⟨hp, hget, hne0, hr4, hset, hsl⟩ := zDy hokc l
    obtain ⟨t1, t2, t3, t4, t5, t6, t7⟩ := zKi hokc l
    rw [zDW hokc hfl hpn]
    rw [hpn] at HRM
    have hfr : fi < (zAm c l).length := (List.getElem?_eq_some_iff.1 huw).1
    have h00 : ((c.1.set (zAF c l) ((zAm c l).set fi (l, st, d))).getD 0 []).length = (zAm c l).length := by
     rw [List.getD_eq_getElem?_getD, List.getElem?_set]
     by_cases h0 : zAF c l = 0
     ·rw [if_pos h0, if_pos hsl]
      simp
     ·rw [if_neg h0, t5]
      simp only [Option.getD_some]
      omega
    have HG : Hid _ := And.intro hget (And.intro huw (And.intro k1 (And.intro hr4 (And.intro t2 (And.intro h00 (And.intro hfr t6))))))
    have HTR : Hid (zAJ (zBs c l) ((zAm c l).length : Int) = true) := by unfold Hid; rw [t1]; exact t3
    show Calls Tryz.prog 105 _ w fun e w' => ∃ av cv bv dv, e = .returned (.tuple #[.agg #[.slice av (c.1.set (zAF c l) ((zAm c l).set fi (l, st, d))).length cv, .slice bv (c.2.set (zAF c l) (zCU (zBs c l) (zAm c l).length fi)).length dv], .bool true]) ∧ zAY zAB w w' [.slice av (c.1.set (zAF c l) ((zAm c l).set fi (l, st, d))).length cv, .slice bv (c.2.set (zAF c l) (zCU (zBs c l) (zAm c l).length fi)).length dv] (c.1.set (zAF c l) ((zAm c l).set fi (l, st, d)), c.2.set (zAF c l) (zCU (zBs c l) (zAm c l).length fi))
    rw [List.length_set, List.length_set]
    clear hokc hok k1 k3 hl15 hbw hget huw hp hne0 hr4 hset hsl t1 t2 t3 t4 t5 t6 t7 hpn h00 hfr
    generalize zAm c l = row at *
    generalize zBs c l = tr at *
    generalize zAF c l = sn at *
    rw [show zGc (some fi) = (fi : Int) from rfl] at HRM
    go_enter Tryz.func105, Tryz.ntmps105
    go_wp2_with fail
    generalize ((w.alloc (.cells #[.slice a c.1.length cap, .slice b c.2.length cp] 37)).alloc (.cells #[.int .i64 l, .int .i64 st, .slice ad d.length cpw] 39)).alloc (.cells #[.slice none 0 0, .slice none 0 0] 37) = W0 at X V Y B e0 ⊢
    refine (HOK.out _ B).mono ?_
    rintro e w1 ⟨rfl, b1⟩
    have z1 := b1.size
    replace B := zAb B b1
    replace Y := zAa b1 Y
    replace V := zAa b1 V
    replace X := zAa b1 X
    clear b1 HOK
    obtain ⟨x0, x1⟩ := zAx X
    go_wp2_with fail
    refine (CP.out _ B).mono ?_
    rintro e w2 ⟨av, cv, bv, dv, rfl, mm⟩
    have z2 := mm.2.size
    obtain ⟨u', v', S1, S2, he, o1, o2, a1, a2, dd⟩ := zCe mm.1
    simp only [List.cons.injEq, and_true] at he
    obtain ⟨rfl, rfl⟩ := he
    replace B := zAb B mm.2
    replace Y := zAa mm.2 Y
    replace V := zAa mm.2 V
    clear mm CP X x0 x1
    obtain ⟨v0, v1, v2⟩ := zAg V
    have lv := (Array.getElem?_eq_some_iff.1 V).1
    go_wp2_with fail
    have O := zAy w2 (.cells #[.slice av c.1.length cv, .slice bv c.2.length dv] 37)
    have bx := zAf w2 (.cells #[.slice av c.1.length cv, .slice bv c.2.length dv] 37)
    replace B := zAb B bx
    replace Y := zAa bx Y
    replace V := zAa bx V
    replace o1 := zBQ (.cells #[.slice av c.1.length cv, .slice bv c.2.length dv] 37) o1
    replace o2 := zBQ (.cells #[.slice av c.1.length cv, .slice bv c.2.length dv] 37) o2
    have e3 : (w2.alloc (.cells #[.slice av c.1.length cv, .slice bv c.2.length dv] 37)).heap.size = w2.heap.size + 1 := by simp
    clear bx v0 v1 v2 lv
    generalize w2.alloc (.cells #[.slice av c.1.length cv, .slice bv c.2.length dv] 37) = w3 at B Y V O o1 o2 e3 ⊢
    refine (HF.out _ B).mono ?_
    rintro e w4 ⟨rfl, b1⟩
    have z4 := b1.size
    replace B := zAb B b1
    replace Y := zAa b1 Y
    replace V := zAa b1 V
    replace O := zAa b1 O
    replace o1 := zBu.own_keep o1 (zAh b1)
    replace o2 := zA5.own_keep o2 (zAh b1)
    clear b1 HF
    obtain ⟨v0, v1, v2⟩ := zAg V
    obtain ⟨p0, p1'⟩ := zAx O
    go_wp2_with fail
    clear v0 v1 v2 p0 p1'
    obtain ⟨a9, c9, e9, hrd⟩ := zIu o1
    simp only [Value.slice.injEq, true_and] at e9
    obtain ⟨rfl, rfl⟩ := e9
    refine (HRM.out _ _ _ _ _ hrd).mono ?_
    rintro e w5 ⟨rfl, b1⟩
    have z5 := b1.size
    replace B := zAb B b1
    replace Y := zAa b1 Y
    replace V := zAa b1 V
    replace O := zAa b1 O
    replace o1 := zBu.own_keep o1 (zAh b1)
    replace o2 := zA5.own_keep o2 (zAh b1)
    clear b1 hrd HRM
    obtain ⟨v0, v1, v2⟩ := zAg V
    obtain ⟨p0, p1'⟩ := zAx O
    have lv := (Array.getElem?_eq_some_iff.1 V).1
    have lo := (Array.getElem?_eq_some_iff.1 O).1
    go_wp2_with fail
    clear v0 v1 v2 p0 p1' lv lo
    have Z := zAy w5 (.cells #[.int .i64 (sn : Int), .int .i64 (fi : Int)] 126)
    have bz := zAf w5 (.cells #[.int .i64 (sn : Int), .int .i64 (fi : Int)] 126)
    have z6 : (w5.alloc (.cells #[.int .i64 (sn : Int), .int .i64 (fi : Int)] 126)).heap.size = w5.heap.size + 1 := by simp
    replace B := zAb B bz
    replace Y := zAa bz Y
    replace V := zAa bz V
    replace O := zAa bz O
    replace o1 := zBu.own_keep o1 (zAh bz)
    replace o2 := zA5.own_keep o2 (zAh bz)
    clear bz
    generalize w5.alloc (.cells #[.int .i64 (sn : Int), .int .i64 (fi : Int)] 126) = w6 at B Y V O Z o1 o2 z6 ⊢
    refine (zEM S1 _ _ c.1 sn fi row uw l st d ad cpw w6 o1 HG.out.1 HG.out.2.1 (by have := HG.out.2.2.1; omega) (by have := HG.out.2.2.2.1; omega) i1 i2 (HD.out _ B) hdl).mono ?_
    rintro e w7 ⟨rfl, M1, CH⟩
    have z7 := CH.size
    have nS : ∀ x, ¬ (w1.heap.size ≤ x ∧ x < w2.heap.size) → ¬ Old w6 S1 x := fun x hx h => hx ⟨(a1 x h.1).1, (a1 x h.1).2⟩
    replace O := (CH.block _ (by omega) (nS w2.heap.size (by omega))).trans O
    replace Z := (CH.block _ (by omega) (nS w5.heap.size (by omega))).trans Z
    replace Y := (CH.block _ (by omega) (nS (w.heap.size + 1 + 1) (by omega))).trans Y
    replace o2 := zAO o2 CH (fun x h1 h2 => dd x h2.1 h1)
    replace B := CH.below B (fun x h => by have := (a1 x h.1).1; omega) (by omega)
    clear CH nS V o1
    obtain ⟨p0, p1'⟩ := zAx O
    obtain ⟨q0, q1⟩ := zAx Z
    go_wp2_with fail
    clear p0 p1' q0 q1
    obtain ⟨a9, c9, e9, hrd7⟩ := zIu M1
    simp only [Value.slice.injEq] at e9
    obtain ⟨rfl, -, rfl⟩ := e9
    have h0l : 0 < (c.1.set sn (row.set fi (l, st, d))).length := by rw [List.length_set]; exact HG.out.2.2.2.2.2.2.2
    obtain ⟨b0, o0, aj, cj, rfl, hcl, -, -, -⟩ := zDj hrd7 (List.getElem?_eq_getElem h0l)
    have hrl : ((c.1.set sn (row.set fi (l, st, d)))[0]).length = row.length := by
     have h9 := HG.out.2.2.2.2.2.1
     rw [List.getD_eq_getElem?_getD, List.getElem?_eq_getElem h0l] at h9
     exact h9
    rw [hrl] at hcl
    refine (zIx S2 b0 o0 c.1.length cv _ c.2 sn fi row.length tr aj cj w7 HG.out.2.2.2.2.2.2.2 hcl o2 HG.out.2.2.2.2.1 (by unfold maxLen; omega) HTR.out HG.out.2.2.2.2.2.2.1).mono ?_
    rintro e w8 ⟨rfl, N2, g9, hg9, hg9l, CH⟩
    have z8 := CH.size
    have r9 := a2 g9 hg9
    have r91 := r9.1
    have r92 := r9.2
    have nS : ∀ x, ¬ (w1.heap.size ≤ x ∧ x < w2.heap.size) → ¬ (x = g9) := fun x hx h => hx (by rw [h]; exact ⟨r91, r92⟩)
    replace O := (CH.block _ (by omega) (nS w2.heap.size (by omega))).trans O
    replace Y := (CH.block _ (by omega) (nS (w.heap.size + 1 + 1) (by omega))).trans Y
    replace M1 := zAO M1 CH (fun x h1 h2 => by
     have e : x = g9 := h2
     subst e
     rcases h1 with h1 | h1
     ·exact dd _ h1.1 hg9
     ·have := h1.1
      omega)
    replace B := CH.below B (fun x h => by have e : x = g9 := h; omega) (by omega)
    clear CH nS o2 hcl hrd7 Z
    obtain ⟨y0, y1⟩ := zAx Y
    obtain ⟨f0, f1⟩ := zBW Y
    obtain ⟨p0, p1'⟩ := zAx O
    have HK : Hid _ := And.intro M1 (And.intro N2 (And.intro Y B))
    have HA : Hid _ := And.intro a1 (And.intro a2 dd)
    clear M1 N2 O Y B a1 a2 dd
    go_wp2
    obtain ⟨o1, o2, Y, B⟩ := HK.out
    obtain ⟨a1, a2, dd⟩ := HA.out
    obtain ⟨r0, r1⟩ := zBc (put2 (a := .slice (some ⟨b0, o0, none⟩) c.1.length cv) (b := .slice bv c.2.length dv) Y)
    refine bodyPost_ret (v := .tuple #[.agg #[.slice (some ⟨b0, o0, none⟩) c.1.length cv, .slice bv c.2.length dv], .bool true]) (by simp [results, Tryz.results105, go_sem, r0, r1]) rfl ⟨_, cv, bv, dv, rfl, zFH (w.heap.size + 1 + 1) (by omega) o1 o2 (fun k h => ?_) (fun k h => ?_) (fun k h ht => ?_) B⟩
    ·rcases h with h | h
     ·have := (a1 k h.1).1
      have := (a1 k h.1).2
      exact ⟨by omega, by omega⟩
     ·exact ⟨by omega, by omega⟩
    ·have := (a2 k h).1
     have := (a2 k h).2
     exact ⟨by omega, by omega⟩
    ·rcases h with h | h
     ·exact dd k h.1 ht
     ·have := (a2 k ht).2
      omega
theorem zFV (cs us : List Value) (c : zAu) (u : zAU) (w : World) (h : zAB.rd w cs c) (hu : zAS.rd w us u) (hl : u.2.2.length ≤ 1048576) :
    Calls Tryz.prog 105 #[zAM cs, zAM us] w fun e w' => ∃ ds, e = .returned (.tuple #[zAM ds, .bool (zB1 c u).2]) ∧ zAY zAB w w' ds (zB1 c u).1 := by
 obtain ⟨a, cap, b, cp, rfl, l1, l2, m1, m2, r1, r2⟩ := zAH h
 obtain ⟨ad, cpw, rfl, i1, i2, k1, k2, k3⟩ := zAL hu
 refine (zHw a b c cap cp u.1 u.2.1 u.2.2 ad cpw w r1 r2 (Nat.le_trans l1 l2) (Nat.le_trans m1 m2) (zGq r1) i1 i2 k3 hl).mono ?_
 rintro e w' ⟨av, cv, bv, dv, rfl, mm⟩
 exact ⟨_, rfl, mm⟩
theorem zGS (cs : List Value) (c : zAu) (k : Int) (w : World) (h : zAB.rd w cs c) :
    Calls Tryz.prog 125 #[zAM cs, .int .i64 k] w fun e w' => ∃ us, e = .returned (.tuple #[zAM us, .int .i64 (zDU c k).2]) ∧ zAY zAS w w' us (zDU c k).1 := by
 obtain ⟨a, cap, b, cp, rfl, l1, l2, m1, m2, r1, r2⟩ := zAH h
 refine (zIp a b c cap cp k w r1 r2 (Nat.le_trans l1 l2) (Nat.le_trans m1 m2) (zGq r1)).mono ?_
 rintro e w' ⟨av, cv, rfl, mm⟩
 exact ⟨_, rfl, mm⟩
theorem zIB (cs : List Value) (c : zAu) (w : World) (h : zAB.rd w cs c) :
    Calls Tryz.prog 64 #[zAM cs] w fun e w' => e = .returned (.bool (okB isL zAJ c)) ∧ Below w.heap.size w w' := by
 obtain ⟨a, cap, b, cp, rfl, l1, l2, m1, m2, r1, r2⟩ := zAH h
 exact zDk a b c cap cp w r1 r2 (Nat.le_trans l1 l2) (Nat.le_trans m1 m2) (zGq r1)
theorem zFI (cs : List Value) (c : zAu) (k : Int) (w : World) (hok : OkC isL zAJ c) (h : zAB.rd w cs c) :
    Calls Tryz.prog 95 #[zAM cs, .int .i64 k] w fun e w' => e = .returned (.tuple #[.agg #[.int .i64 (zCr c k).1, .int .i64 (zCr c k).2.1], .bool (zCr c k).2.2]) ∧ Below w.heap.size w w' := by
 obtain ⟨a, cap, b, cp, rfl, l1, l2, m1, m2, r1, r2⟩ := zAH h
 exact zEo a b c cap cp k w hok r1
theorem zJy (cs : List Value) (c : zAu) (w : World) (hok : OkC isL zAJ c) (h : zAB.rd w cs c) :
    Calls Tryz.prog 69 #[zAM cs] w fun e w' => ∃ ds, e = .returned (zAM ds) ∧ zAY zAB w w' ds c := by
 obtain ⟨a, cap, b, cp, rfl, l1, l2, m1, m2, r1, r2⟩ := zAH h
 obtain ⟨hp, m, hm, hrow⟩ := zMV hok
 obtain ⟨s1, s2, s3⟩ := zIv hok
 refine (zEN a b c cap cp m w r1 r2 hp hm hrow (by omega) (fun row hr u hu => (s3 row hr).2 u hu)).mono ?_
 rintro e w' ⟨av, cv, bv, dv, rfl, mm⟩
 exact ⟨_, rfl, mm⟩
theorem zGT (us : List Value) (u : zAU) (w : World) (h : zAS.rd w us u) (hl : u.2.2.length ≤ 1048576) :
    Calls Tryz.prog 71 #[zAM us] w fun e w' => ∃ ds, e = .returned (zAM ds) ∧ zAY zAS w w' ds u := by
 obtain ⟨ad, cpw, rfl, i1, i2, k1, k2, k3⟩ := zAL h
 refine (zDS u.1 u.2.1 u.2.2 ad cpw w i1 i2 k3 hl).mono ?_
 rintro e w' ⟨av, cv, rfl, mm⟩
 exact ⟨_, rfl, mm⟩
theorem zHH (w : World) : Calls Tryz.prog 103 #[] w fun e w' => ∃ ds, e = .returned (zAM ds) ∧ zAY zAS w w' ds zAA := by
 refine (zEr w).mono ?_
 rintro e w' ⟨av, cv, rfl, mm⟩
 exact ⟨_, rfl, mm⟩
theorem zGU (w : World) : Calls Tryz.prog 59 #[] w fun e w' => ∃ ds, e = .returned (zAM ds) ∧ zAY zAS w w' ds zAA := by
 refine (zKp w).mono ?_
 rintro e w' ⟨av, cv, rfl, mm⟩
 exact ⟨_, rfl, mm⟩
theorem zGV (us : List Value) (u : zAU) (w : World) (h : zAS.rd w us u) (hl : u.2.2.length ≤ 1048576) :
    Calls Tryz.prog 56 #[zAM us] w fun e w' => ∃ ds, e = .returned (zAM ds) ∧ zAY zAS w w' ds u := by
 obtain ⟨ad, cpw, rfl, i1, i2, k1, k2, k3⟩ := zAL h
 refine (zDT u.1 u.2.1 u.2.2 ad cpw w i1 i2 k3 hl).mono ?_
 rintro e w' ⟨av, cv, rfl, mm⟩
 exact ⟨_, rfl, mm⟩
theorem l6Copy_u (cs : List Value) (c : zAu) (w : World) (hok : OkC isL zAJ c) (h : zAB.rd w cs c) :
    Calls Tryz.prog 55 #[zAM cs] w fun e w' => ∃ ds, e = .returned (zAM ds) ∧ zAY zAB w w' ds c := by
 obtain ⟨a, cap, b, cp, rfl, l1, l2, m1, m2, r1, r2⟩ := zAH h
 obtain ⟨s1, s2, s3⟩ := zIv hok
 refine (zLU a b c cap cp w r1 r2 (by omega) (by omega) s3).mono ?_
 rintro e w' ⟨av, cv, bv, dv, rfl, mm⟩
 exact ⟨_, rfl, mm⟩
theorem zD0 (cs : List Value) (c : zAu) (k : Int) (w : World) (hok : OkC isL zAJ c) (h : zAB.rd w cs c) :
    Calls Tryz.prog 54 #[zAM cs, .int .i64 k] w fun e w' => e = .returned (.int .i64 (zGc (atC c k))) ∧ Below w.heap.size w w' := by
 obtain ⟨a, cap, b, cp, rfl, l1, l2, m1, m2, r1, r2⟩ := zAH h
 exact zFD a b c cap cp k w hok r1
abbrev ofS (s : CoreS) : zAE := (s.cache, s.prog, s.at_, s.phase, s.held, s.told)
abbrev toS (x : zAE) : CoreS := ⟨x.1, x.2.1, x.2.2.1, x.2.2.2.1, x.2.2.2.2.1, x.2.2.2.2.2⟩
theorem zK2 {c : zAu} (h : OkC isL zAJ c) (u : zAU) : zI4 c u = (if (zB1 c u).2 then some (zB1 c u).1 else none) := by
 unfold zI4
 cases hf : zBi isL u
 ·rw [zFz h hf]; rfl
 ·cases hp : zB2 c u.1 with
  | none => rw [zDp h hp]; rfl
  | some i => rw [zDW h hf hp]
theorem zN3 {c : zAu} (h : OkC isL zAJ c) (u : zAU) (hn : (zB1 c u).2 = false) : (zB1 c u).1 = c := by
 cases hf : zBi isL u
 ·rw [zFz h hf]
 ·cases hp : zB2 c u.1 with
  | none => rw [zDp h hp]
  | some i => rw [zDW h hf hp] at hn; cases hn
theorem zN4 {c : zAu} (h : OkC isL zAJ c) (k : Int) : (zDU c k).1 = zAD c k := zEC h k
def badP {α : Type} (p : α → Bool) (xs : List α) : Int := match xs.findIdx? (fun u => !p u) with
 | some i => (i : Int)
 | none => -1
theorem badP_at {α : Type} {p : α → Bool} {xs : List α} {k : Nat} {u : α} (hu : xs[k]? = some u) (hp : p u = false) (hno : ∀ j v, j < k → xs[j]? = some v → p v = true) : badP p xs = (k : Int) := by
 have hk := (List.getElem?_eq_some_iff.1 hu).1
 have : xs.findIdx? (fun u => !p u) = some k := by
  rw [List.findIdx?_eq_some_iff_getElem]
  refine ⟨hk, ?_, fun j hj => ?_⟩
  ·rw [List.getElem?_eq_getElem hk] at hu
   cases hu
   simp [hp]
  ·have := hno j _ hj (List.getElem?_eq_getElem (by omega))
   simp [this]
 unfold badP
 rw [this]
theorem zN5 {α : Type} {p : α → Bool} {xs : List α} (hno : ∀ (j : Nat) (v : α), xs[j]? = some v → p v = true) : badP p xs = -1 := by
 have : xs.findIdx? (fun u => !p u) = none := by
  rw [List.findIdx?_eq_none_iff]
  intro u hu
  obtain ⟨j, hj⟩ := List.getElem?_of_mem hu
  simp [hno j u hj]
 unfold badP
 rw [this]
theorem badP_all {α : Type} (p : α → Bool) (xs : List α) : xs.all p = decide (badP p xs < 0) := by
 cases h : xs.all p
 ·have h1 : ¬ ∀ x ∈ xs, p x = true := fun hh => by rw [List.all_eq_true.2 hh] at h; cases h
  cases hf : xs.findIdx? (fun u => !p u) with
  | none =>
   rw [List.findIdx?_eq_none_iff] at hf
   exact (h1 fun x hx => by have := hf x hx; simpa using this).elim
  | some i => simp [badP, hf]
 ·rw [zN5 fun j v hv => List.all_eq_true.1 h v (List.mem_of_getElem? hv)]
  rfl
theorem zMc (x : OpD) (w : World) :
    Calls Tryz.prog 92 #[.agg #[.int .i64 x.1, .int .i64 x.2.1, .int .i64 x.2.2.1, .int .i64 x.2.2.2]] w fun e w' => e = .returned (.bool (!zBN x)) ∧ Below w.heap.size w w' := by
 have B := zAf w (.cells #[.int .i64 x.1, .int .i64 x.2.1, .int .i64 x.2.2.1, .int .i64 x.2.2.2] 85)
 have HM : Hid (∀ W, Calls Tryz.prog 93 #[.agg #[.int .i64 x.1, .int .i64 x.2.1, .int .i64 x.2.2.1, .int .i64 x.2.2.2]] W fun e w' => e = .returned (.bool (zBN x)) ∧ Below W.heap.size W w') := fun W => zBS x.1 x.2.1 x.2.2.1 x.2.2.2 W
 generalize zBN x = q at HM ⊢
 go_enter Tryz.func92, Tryz.ntmps92
 go_wp2_with fail
 generalize w.alloc (.cells #[.int .i64 x.1, .int .i64 x.2.1, .int .i64 x.2.2.1, .int .i64 x.2.2.2] 85) = W0 at B ⊢
 refine (HM.out _).mono ?_
 rintro e w1 ⟨rfl, b1⟩
 go_wp2
 go_ret
 exact ⟨rfl, zAb B b1⟩
theorem zIC (a : Option Addr) (xs : List OpD) (cap : Nat) (w : World) (h : zBh opR w a xs) (hm : xs.length ≤ maxLen) :
    Calls Tryz.prog 115 #[.slice a xs.length cap, .func (.func 92) #[] #[]] w fun e w' => e = .returned (.int .i64 (badP zBN xs)) ∧ Below w.heap.size w w' := by
 have hm' : xs.length ≤ 9223372036854775807 := hm
 have H0 : Hid (∀ W, Below w.heap.size w W → zBh opR W a xs) := fun W hb => zA7 h fun k hk => hb.block k hk
 clear h hm
 go_enter Tryz.func115, Tryz.ntmps115
 go_wp2
 go_loopw [8] (fun i wr => ∃ k : Nat, k ≤ xs.length ∧ i = .int .i64 k ∧ (∀ j v, j < k → xs[j]? = some v → zBN v = true) ∧ Below w.heap.size w wr) (fun i _ => xs.length - (intOf i).toNat)
 case atStart => exact ⟨0, Nat.zero_le _, rfl, fun j v hj => by omega, Below.refl _ _⟩
 case round =>
  obtain ⟨k, hk, rfl, hno, BB⟩ := hrel
  by_cases hlt : k < xs.length
  ·have hlt' : (k : Int) < (xs.length : Int) := by omega
   obtain ⟨x, hx⟩ : ∃ x, xs[k]? = some x := ⟨_, List.getElem?_eq_getElem hlt⟩
   obtain ⟨b, off, rfl, x0, x1, x2, x3, -⟩ := zEt (H0.out _ BB) hx
   have HC := zMc x wr
   have HX : Hid (xs[k]? = some x) := hx
   clear hx
   cases hb : zBN x
   ·have HR : Hid (badP zBN xs = k) := badP_at HX.out hb hno
    rw [hb] at HC
    go_wp2_with fail
    refine HC.mono ?_
    rintro e w2 ⟨rfl, b2⟩
    replace BB := zAb BB b2
    clear b2 x0 x1 x2 x3
    go_wp2
    go_ret
    exact ⟨zAW HR.out.symm, BB⟩
   ·rw [hb] at HC
    go_wp2_with fail
    refine HC.mono ?_
    rintro e w2 ⟨rfl, b2⟩
    replace BB := zAb BB b2
    clear b2 x0 x1 x2 x3
    go_wp2
    go_roundw
    case rel =>
     refine ⟨k + 1, by omega, by go_num, fun j v hj hv => ?_, BB⟩
     by_cases he : j < k
     ·exact hno j v he hv
     ·have : j = k := by omega
      subst this
      rw [HX.out] at hv
      cases hv
      exact hb
    case measure => simp [intOf]; omega
  ·have HR : Hid (badP zBN xs = -1) := zN5 fun j v hv => hno j v (by have := (List.getElem?_eq_some_iff.1 hv).1; omega) hv
   go_wp2
   go_ret
   exact ⟨zAW HR.out.symm, BB⟩
theorem zGe (a : Option Addr) (xs : List OpD) (cap : Nat) (w : World) (h : zBh opR w a xs) (hm : xs.length ≤ maxLen) :
    Calls Tryz.prog 91 #[.slice a xs.length cap, .func (.func 92) #[] #[]] w fun e w' => e = .returned (.bool (!xs.all zBN)) ∧ Below w.heap.size w w' := by
 have HI := zIC a xs cap w h hm
 have hab := badP_all zBN xs
 clear h hm
 generalize badP zBN xs = q at HI hab
 generalize xs.all zBN = y at hab ⊢
 subst hab
 by_cases hq : q < 0
 ·have hq2 : ¬ (0 ≤ q) := by omega
  go_enter Tryz.func91, Tryz.ntmps91
  go_wp2_with fail
  refine HI.mono ?_
  rintro e w1 ⟨rfl, b1⟩
  go_wp2
  go_ret
  exact ⟨by simp [hq], b1⟩
 ·have hq2 : 0 ≤ q := by omega
  go_enter Tryz.func91, Tryz.ntmps91
  go_wp2_with fail
  refine HI.mono ?_
  rintro e w1 ⟨rfl, b1⟩
  go_wp2
  go_ret
  exact ⟨by simp [hq], b1⟩
def zMd (xs : List OpD) : Bool := decide (xs.length ≤ 30) && xs.all zBN
theorem zID (a : Option Addr) (xs : List OpD) (cap : Nat) (w : World) (h : zBh opR w a xs) (hm : xs.length ≤ maxLen) :
    Calls Tryz.prog 65 #[.slice a xs.length cap] w fun e w' => e = .returned (.bool (zMd xs)) ∧ Below w.heap.size w w' := by
 have HC := zGe a xs cap w h hm
 have hm' : xs.length ≤ 9223372036854775807 := hm
 unfold zMd
 generalize xs.all zBN = y at HC ⊢
 clear h hm
 by_cases hl : xs.length ≤ 30
 ·have hl' : (xs.length : Int) ≤ 30 := by omega
  go_enter Tryz.func65, Tryz.ntmps65
  go_wp2_with fail
  refine HC.mono ?_
  rintro e w1 ⟨rfl, b1⟩
  go_wp2
  go_ret
  exact ⟨by simp [hl], b1⟩
 ·have hl' : ¬ ((xs.length : Int) ≤ 30) := by omega
  go_enter Tryz.func65, Tryz.ntmps65
  go_wp2
  go_ret
  exact ⟨by simp, Below.refl _ _⟩
end Go.Proofs.YtoihjejenjcokaaGreatDoor
