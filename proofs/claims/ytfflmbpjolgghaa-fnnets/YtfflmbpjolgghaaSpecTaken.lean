/- A letter taken, by the specification. No condition but lists that read as told, of lengths that a machine can hold. -/
import Derived.Test.YtfflmbpjolgghaaWithout
import Derived.Test.YtfflmbpjolgghaaSpecFirst
import Derived.Deep.RegionHeld3
namespace Go.Proofs.Ytfflmbpjolgghaa
open Go.ChangeShapes Go.WideShapes Go.ChangeAt Go.RowKit
set_option linter.unusedVariables false

def zeroM : MsgD := (0, 0, 0, 0, 0, [], 0)
noncomputable def takenI (xs : List MsgD) (k : Int) : List MsgD × MsgD × Bool := if netB xs then (if firstB xs k then (xs.eraseIdx k.toNat, xs.getD k.toNat zeroM, true) else (xs, zeroM, false)) else ([], zeroM, false)
theorem own_none {w : World} {S : Foot} : msgR.own w S [.int .i64 0, .int .i64 0, .int .i64 0, .int .i64 0, .int .i64 0, .slice none 0 0, .int .i64 0] zeroM := own_msg (by constructor <;> decide) (by constructor <;> decide) (by constructor <;> decide) (by constructor <;> decide) (by constructor <;> decide) (by constructor <;> decide) ⟨_, [], fun _ => False, rfl, World.ownsRow_nil _ _ _ _, fun g hg => by simp [Value.ownBlock] at hg, fun _ h => h.elim, rfl⟩

theorem pk7 {w wx : World} {C : World → Prop} (h : ∀ W, Below w.heap.size w W → C W) (hb : Below w.heap.size w wx) : C wx ∧ Below w.heap.size w wx := ⟨h wx hb, hb⟩

set_option maxRecDepth 8000 in
set_option maxHeartbeats 4000000 in
theorem specTaken_any (a : Option Addr) (xs : List MsgD) (cap : Nat) (k : Int) (w : World) (h : SlRd msgR w a xs) (hm : xs.length ≤ maxLen) :
    Calls Try.prog 18 #[.slice a xs.length cap, .int .i64 k] w fun e w' => ∃ av cv bv dv, e = .returned (.tuple #[.slice av (takenI xs k).1.length cv, .agg #[.int .i64 (takenI xs k).2.1.1, .int .i64 (takenI xs k).2.1.2.1, .int .i64 (takenI xs k).2.1.2.2.1, .int .i64 (takenI xs k).2.1.2.2.2.1, .int .i64 (takenI xs k).2.1.2.2.2.2.1, .slice bv (takenI xs k).2.1.2.2.2.2.2.1.length dv, .int .i64 (takenI xs k).2.1.2.2.2.2.2.2], .bool (takenI xs k).2.2]) ∧
      MadeR (prodR msgsR msgR) w w' [.slice av (takenI xs k).1.length cv, .int .i64 (takenI xs k).2.1.1, .int .i64 (takenI xs k).2.1.2.1, .int .i64 (takenI xs k).2.1.2.2.1, .int .i64 (takenI xs k).2.1.2.2.2.1, .int .i64 (takenI xs k).2.1.2.2.2.2.1, .slice bv (takenI xs k).2.1.2.2.2.2.2.1.length dv, .int .i64 (takenI xs k).2.1.2.2.2.2.2.2] ((takenI xs k).1, (takenI xs k).2.1) := by
  have HN : Hid (∀ W, Below w.heap.size w W → Calls Try.prog 17 #[.slice a xs.length cap] W fun e w' => e = .returned (.bool (netB xs)) ∧ Below W.heap.size W w') := fun W hb => specNetOk_any a xs cap W (slrd_next h hb) hm
  have HF : Hid (∀ W, Below w.heap.size w W → Calls Try.prog 48 #[.slice a xs.length cap, .int .i64 k] W fun e w' => e = .returned (.bool (firstB xs k)) ∧ Below W.heap.size W w') := fun W hb => l7First_any a xs cap k W (slrd_next h hb) hm
  have X := heap_at w (.cells #[.int .i64 0, .int .i64 0, .int .i64 0, .int .i64 0, .int .i64 0, .slice none 0 0, .int .i64 0] 27)
  have B := box_below w (.cells #[.int .i64 0, .int .i64 0, .int .i64 0, .int .i64 0, .int .i64 0, .slice none 0 0, .int .i64 0] 27)
  cases hn : netB xs
  · have HS : Hid (takenI xs k = ([], zeroM, false)) := by unfold Hid takenI; rw [hn]; rfl
    rw [hn] at HN
    rw [HS.out]
    show Calls Try.prog 18 _ w fun e w' => ∃ av cv bv dv, e = .returned (.tuple #[.slice av 0 cv, .agg #[.int .i64 0, .int .i64 0, .int .i64 0, .int .i64 0, .int .i64 0, .slice bv 0 dv, .int .i64 0], .bool false]) ∧ MadeR (prodR msgsR msgR) w w' [.slice av 0 cv, .int .i64 0, .int .i64 0, .int .i64 0, .int .i64 0, .int .i64 0, .slice bv 0 dv, .int .i64 0] (([] : List MsgD), zeroM)
    clear h hm HF
    go_enter Try.func18, Try.ntmps18
    go_wp2_with fail
    generalize w.alloc (.cells #[.int .i64 0, .int .i64 0, .int .i64 0, .int .i64 0, .int .i64 0, .slice none 0 0, .int .i64 0] 27) = W0 at B X ⊢
    refine (HN.out _ B).mono ?_
    rintro e w1 ⟨rfl, b1⟩
    replace B := below_step B b1
    replace X := row_keep b1 X
    have sz := (Array.getElem?_eq_some_iff.1 X).1
    clear b1 HN
    have MN := made_none (e := 27) (R := msgR) w1
    obtain ⟨x0, x1, x2, x3, x4, x5, x6⟩ := cells_7 X
    obtain ⟨f0, f1, f2, f3, f4, f5, f6⟩ := froz_7 X
    have HX : Hid _ := And.intro X MN
    clear X MN
    go_wp2
    obtain ⟨X, -⟩ := HX.out
    obtain ⟨r0, r1, r2, r3, r4, r5, r6⟩ := cells_7 (heap_on (.cells #[] 27) (put_7 (y0 := .int .i64 0) (y1 := .int .i64 0) (y2 := .int .i64 0) (y3 := .int .i64 0) (y4 := .int .i64 0) (y5 := .slice none 0 0) (y6 := .int .i64 0) X))
    refine bodyPost_ret (v := .tuple #[.slice (some ⟨w1.heap.size, 0, none⟩) 0 0, .agg #[.int .i64 0, .int .i64 0, .int .i64 0, .int .i64 0, .int .i64 0, .slice none 0 0, .int .i64 0], .bool false]) (by simp [results, Try.results18, go_sem, r0, r1, r2, r3, r4, r5, r6]) rfl ⟨some ⟨w1.heap.size, 0, none⟩, 0, none, 0, rfl, ?_⟩
    refine madeR_step (below_setC (below_setC (below_setC (below_setC (below_setC (below_setC (below_setC (B) (by omega)) (by omega)) (by omega)) (by omega)) (by omega)) (by omega)) (by omega)) (w1 := (((((((w1.setCell ⟨w.heap.size, 0, none⟩ (.int .i64 0)).setCell ⟨w.heap.size, 1, none⟩ (.int .i64 0)).setCell ⟨w.heap.size, 2, none⟩ (.int .i64 0)).setCell ⟨w.heap.size, 3, none⟩ (.int .i64 0)).setCell ⟨w.heap.size, 4, none⟩ (.int .i64 0)).setCell ⟨w.heap.size, 5, none⟩ (.slice none 0 0)).setCell ⟨w.heap.size, 6, none⟩ (.int .i64 0))) ?_
    have MN := made_none (e := 27) (R := msgR) ((((((((w1.setCell ⟨w.heap.size, 0, none⟩ (.int .i64 0)).setCell ⟨w.heap.size, 1, none⟩ (.int .i64 0)).setCell ⟨w.heap.size, 2, none⟩ (.int .i64 0)).setCell ⟨w.heap.size, 3, none⟩ (.int .i64 0)).setCell ⟨w.heap.size, 4, none⟩ (.int .i64 0)).setCell ⟨w.heap.size, 5, none⟩ (.slice none 0 0)).setCell ⟨w.heap.size, 6, none⟩ (.int .i64 0)))
    have e9 : ((((((((w1.setCell ⟨w.heap.size, 0, none⟩ (.int .i64 0)).setCell ⟨w.heap.size, 1, none⟩ (.int .i64 0)).setCell ⟨w.heap.size, 2, none⟩ (.int .i64 0)).setCell ⟨w.heap.size, 3, none⟩ (.int .i64 0)).setCell ⟨w.heap.size, 4, none⟩ (.int .i64 0)).setCell ⟨w.heap.size, 5, none⟩ (.slice none 0 0)).setCell ⟨w.heap.size, 6, none⟩ (.int .i64 0))).heap.size = w1.heap.size := by simp
    rw [e9] at MN
    exact ⟨⟨[_], [_, _, _, _, _, _, _], _, fun _ => False, rfl, MN.1, own_none, Sub.refl _, fun _ h => h.elim, fun _ _ h => h⟩, MN.2⟩
  · rw [hn] at HN
    obtain ⟨k1, k2⟩ := net_small hn
    cases hf : firstB xs k
    · have HS : Hid (takenI xs k = (xs, zeroM, false)) := by unfold Hid takenI; rw [hn, hf]; rfl
      rw [hf] at HF
      rw [HS.out]
      show Calls Try.prog 18 _ w fun e w' => ∃ av cv bv dv, e = .returned (.tuple #[.slice av xs.length cv, .agg #[.int .i64 0, .int .i64 0, .int .i64 0, .int .i64 0, .int .i64 0, .slice bv 0 dv, .int .i64 0], .bool false]) ∧ MadeR (prodR msgsR msgR) w w' [.slice av xs.length cv, .int .i64 0, .int .i64 0, .int .i64 0, .int .i64 0, .int .i64 0, .slice bv 0 dv, .int .i64 0] (xs, zeroM)
      have HC : Hid (∀ W, Below w.heap.size w W → Calls Try.prog 43 #[.slice a xs.length cap] W fun e w' => ∃ v, e = .returned v ∧ MadeR msgsR W w' [v] xs) := fun W hb => l7Copy_any a xs cap W (slrd_next h hb) (by omega) k2
      clear h hm k2
      go_enter Try.func18, Try.ntmps18
      go_wp2_with fail
      have e0 : (w.alloc (.cells #[.int .i64 0, .int .i64 0, .int .i64 0, .int .i64 0, .int .i64 0, .slice none 0 0, .int .i64 0] 27)).heap.size = w.heap.size + 1 := by simp
      generalize w.alloc (.cells #[.int .i64 0, .int .i64 0, .int .i64 0, .int .i64 0, .int .i64 0, .slice none 0 0, .int .i64 0] 27) = W0 at B X e0 ⊢
      refine (HN.out _ B).mono ?_
      rintro e w1 ⟨rfl, b1⟩
      have z1 := b1.size
      replace B := below_step B b1
      replace X := row_keep b1 X
      clear b1 HN
      go_wp2_with fail
      refine (HF.out _ B).mono ?_
      rintro e w2 ⟨rfl, b1⟩
      have z2 := b1.size
      replace B := below_step B b1
      replace X := row_keep b1 X
      clear b1 HF
      go_wp2_with fail
      refine (HC.out _ B).mono ?_
      rintro e w3 ⟨v, rfl, mm⟩
      obtain ⟨av, cv, rfl⟩ := slown_val mm.1
      replace X := row_keep mm.2 X
      obtain ⟨x0, x1, x2, x3, x4, x5, x6⟩ := cells_7 X
      obtain ⟨f0, f1, f2, f3, f4, f5, f6⟩ := froz_7 X
      have HX : Hid _ := And.intro X (And.intro mm B)
      clear X mm B HC
      go_wp2
      obtain ⟨X, mm, B⟩ := HX.out
      obtain ⟨r0, r1, r2, r3, r4, r5, r6⟩ := cells_7 (put_7 (y0 := .int .i64 0) (y1 := .int .i64 0) (y2 := .int .i64 0) (y3 := .int .i64 0) (y4 := .int .i64 0) (y5 := .slice none 0 0) (y6 := .int .i64 0) X)
      refine bodyPost_ret (v := .tuple #[.slice av xs.length cv, .agg #[.int .i64 0, .int .i64 0, .int .i64 0, .int .i64 0, .int .i64 0, .slice none 0 0, .int .i64 0], .bool false]) (by simp [results, Try.results18, go_sem, r0, r1, r2, r3, r4, r5, r6]) rfl ⟨av, cv, none, 0, rfl, ⟨[_], [_, _, _, _, _, _, _], rng w2.heap.size w3.heap.size, fun _ => False, rfl, own_setC (own_setC (own_setC (own_setC (own_setC (own_setC (own_setC (mm.1) (fun h => by have := h.1; omega)) (fun h => by have := h.1; omega)) (fun h => by have := h.1; omega)) (fun h => by have := h.1; omega)) (fun h => by have := h.1; omega)) (fun h => by have := h.1; omega)) (fun h => by have := h.1; omega), own_none, rng_sub (by omega) (by simp), fun _ h => h.elim, fun _ _ h => h⟩, below_setC (below_setC (below_setC (below_setC (below_setC (below_setC (below_setC (below_step B mm.2) (by omega)) (by omega)) (by omega)) (by omega)) (by omega)) (by omega)) (by omega)⟩
    · obtain ⟨hk0, x, hx, -⟩ : 0 ≤ k ∧ ∃ v, xs[k.toNat]? = some v ∧ NoneOf xs v k.toNat := by simpa [firstB] using hf
      obtain ⟨n, rfl⟩ : ∃ n : Nat, k = (n : Int) := ⟨k.toNat, by omega⟩
      simp only [Int.toNat_natCast] at hx
      have hnl := (List.getElem?_eq_some_iff.1 hx).1
      have hnl' : (n : Int) < (xs.length : Int) := by omega
      have HS : Hid (takenI xs (n : Int) = (xs.eraseIdx n, x, true)) := by
        unfold Hid takenI
        rw [hn, hf]
        simp [List.getD_eq_getElem?_getD, hx]
      rw [hf] at HF
      rw [HS.out]
      show Calls Try.prog 18 _ w fun e w' => ∃ av cv bv dv, e = .returned (.tuple #[.slice av (xs.eraseIdx n).length cv, .agg #[.int .i64 x.1, .int .i64 x.2.1, .int .i64 x.2.2.1, .int .i64 x.2.2.2.1, .int .i64 x.2.2.2.2.1, .slice bv x.2.2.2.2.2.1.length dv, .int .i64 x.2.2.2.2.2.2], .bool true]) ∧ MadeR (prodR msgsR msgR) w w' [.slice av (xs.eraseIdx n).length cv, .int .i64 x.1, .int .i64 x.2.1, .int .i64 x.2.2.1, .int .i64 x.2.2.2.1, .int .i64 x.2.2.2.2.1, .slice bv x.2.2.2.2.2.1.length dv, .int .i64 x.2.2.2.2.2.2] (xs.eraseIdx n, x)
      have HC : Hid (∀ W, Below w.heap.size w W → Calls Try.prog 49 #[.slice a xs.length cap, .int .i64 (n : Int)] W fun e w' => ∃ v, e = .returned v ∧ MadeR msgsR W w' [v] (xs.eraseIdx n)) := fun W hb => l7Without_any a xs cap n W (slrd_next h hb) (by omega) k2
      obtain ⟨b, off, cs, rfl, hrdx, hcell⟩ := slrd_at h hx
      obtain ⟨ad, cpw, rfl, i0, i1, i2, i3, i4, i6, hd1, hd2, hd3⟩ := msg_rd hrdx
      have x0 := hcell 0 _ rfl
      have x1 := hcell 1 _ rfl
      have x2 := hcell 2 _ rfl
      have x3 := hcell 3 _ rfl
      have x4 := hcell 4 _ rfl
      have x5 := hcell 5 _ rfl
      have x6 := hcell 6 _ rfl
      rw [show off + (n * msgR.size + 0) = off + n * 7 from rfl] at x0
      rw [show off + (n * msgR.size + 1) = off + n * 7 + 1 from rfl] at x1
      rw [show off + (n * msgR.size + 2) = off + n * 7 + 2 from rfl] at x2
      rw [show off + (n * msgR.size + 3) = off + n * 7 + 3 from rfl] at x3
      rw [show off + (n * msgR.size + 4) = off + n * 7 + 4 from rfl] at x4
      rw [show off + (n * msgR.size + 5) = off + n * 7 + 5 from rfl] at x5
      rw [show off + (n * msgR.size + 6) = off + n * 7 + 6 from rfl] at x6
      have HP : Hid (∀ W, Below w.heap.size w W → Calls Try.prog 45 #[.agg #[.int .i64 x.1, .int .i64 x.2.1, .int .i64 x.2.2.1, .int .i64 x.2.2.2.1, .int .i64 x.2.2.2.2.1, .slice ad x.2.2.2.2.2.1.length cpw, .int .i64 x.2.2.2.2.2.2]] W fun e w' => ∃ av cv, e = .returned (.agg #[.int .i64 x.1, .int .i64 x.2.1, .int .i64 x.2.2.1, .int .i64 x.2.2.2.1, .int .i64 x.2.2.2.2.1, .slice av x.2.2.2.2.2.1.length cv, .int .i64 x.2.2.2.2.2.2]) ∧ MadeR msgR W w' [.int .i64 x.1, .int .i64 x.2.1, .int .i64 x.2.2.1, .int .i64 x.2.2.2.1, .int .i64 x.2.2.2.2.1, .slice av x.2.2.2.2.2.1.length cv, .int .i64 x.2.2.2.2.2.2] x) := fun W hb => l7CopyMsg_any x.1 x.2.1 x.2.2.1 x.2.2.2.1 x.2.2.2.2.1 x.2.2.2.2.2.2 x.2.2.2.2.2.1 ad cpw W i0 i1 i2 i3 i4 i6 (slrd_next hd3 hb) (k2 x (List.mem_of_getElem? hx))
      have KC : Hid (∀ W, Below w.heap.size w W → W.cell? ⟨b, off + n * 7, none⟩ = some (.int .i64 x.1) ∧ W.cell? ⟨b, off + n * 7 + 1, none⟩ = some (.int .i64 x.2.1) ∧ W.cell? ⟨b, off + n * 7 + 2, none⟩ = some (.int .i64 x.2.2.1) ∧ W.cell? ⟨b, off + n * 7 + 3, none⟩ = some (.int .i64 x.2.2.2.1) ∧ W.cell? ⟨b, off + n * 7 + 4, none⟩ = some (.int .i64 x.2.2.2.2.1) ∧ W.cell? ⟨b, off + n * 7 + 5, none⟩ = some (.slice ad x.2.2.2.2.2.1.length cpw) ∧ W.cell? ⟨b, off + n * 7 + 6, none⟩ = some (.int .i64 x.2.2.2.2.2.2)) := fun W hb => ⟨cell_keep hb x0 (cell_lt x0), cell_keep hb x1 (cell_lt x1), cell_keep hb x2 (cell_lt x2), cell_keep hb x3 (cell_lt x3), cell_keep hb x4 (cell_lt x4), cell_keep hb x5 (cell_lt x5), cell_keep hb x6 (cell_lt x6)⟩
      clear h hm k2 hcell hrdx hd1 hd2 hd3 i0 i1 i2 i3 i4 i6 x0 x1 x2 x3 x4 x5 x6 hf hk0
      go_enter Try.func18, Try.ntmps18
      go_wp2_with fail
      have e0 : (w.alloc (.cells #[.int .i64 0, .int .i64 0, .int .i64 0, .int .i64 0, .int .i64 0, .slice none 0 0, .int .i64 0] 27)).heap.size = w.heap.size + 1 := by simp
      generalize w.alloc (.cells #[.int .i64 0, .int .i64 0, .int .i64 0, .int .i64 0, .int .i64 0, .slice none 0 0, .int .i64 0] 27) = W0 at B X e0 ⊢
      refine (HN.out _ B).mono ?_
      rintro e w1 ⟨rfl, b1⟩
      have z1 := b1.size
      replace B := below_step B b1
      replace X := row_keep b1 X
      clear b1 HN
      go_wp2_with fail
      refine (HF.out _ B).mono ?_
      rintro e w2 ⟨rfl, b1⟩
      have z2 := b1.size
      replace B := below_step B b1
      replace X := row_keep b1 X
      clear b1 HF
      go_wp2
      have HB : Hid _ := And.intro B X
      obtain ⟨c0, c1, c2, c3, c4, c5, c6⟩ := KC.out _ B
      have Q0 : Hid ((w2.cell? ⟨b, off + n * 7, none⟩ = some (.int .i64 x.1) ∧ w2.cell? ⟨b, off + n * 7 + 1, none⟩ = some (.int .i64 x.2.1) ∧ w2.cell? ⟨b, off + n * 7 + 2, none⟩ = some (.int .i64 x.2.2.1) ∧ w2.cell? ⟨b, off + n * 7 + 3, none⟩ = some (.int .i64 x.2.2.2.1) ∧ w2.cell? ⟨b, off + n * 7 + 4, none⟩ = some (.int .i64 x.2.2.2.2.1) ∧ w2.cell? ⟨b, off + n * 7 + 5, none⟩ = some (.slice ad x.2.2.2.2.2.1.length cpw) ∧ w2.cell? ⟨b, off + n * 7 + 6, none⟩ = some (.int .i64 x.2.2.2.2.2.2)) ∧ Below w.heap.size w w2) := ⟨KC.out _ B, B⟩
      clear B X
      go_region_with (first
        | (go_at_call 49
           refine (HC.out _ HB.out.1.drew).mono ?_
           rintro e w3 ⟨v, rfl, mm⟩
           obtain ⟨av, cv, rfl⟩ := slown_val mm.1
           have Q1 : Below w.heap.size w w3 := below_step HB.out.1.drew mm.2
           have X3 := row_keep (w := w2.drew) mm.2 HB.out.2
           have HM : Hid _ := And.intro mm (And.intro X3 Q1)
           clear c0 c1 c2 c3 c4 c5 c6
           obtain ⟨c0, c1, c2, c3, c4, c5, c6⟩ := KC.out _ Q1
           clear mm X3 Q1)
        | (go_at_call 45
           refine (HP.out _ HM.out.2.2).mono ?_
           rintro e w4 ⟨av9, cv9, rfl, mm⟩
           have X4 := row_keep mm.2 HM.out.2.1
           obtain ⟨v0, v1, v2, v3, v4, v5, v6⟩ := cells_7 X4
           obtain ⟨u0, u1, u2, u3, u4, u5, u6⟩ := froz_7 X4
           have HM4 : Hid _ := And.intro mm X4
           clear mm X4 c0 c1 c2 c3 c4 c5 c6))
      all_goals
        go_wp2
        obtain ⟨mm, X3, Q1⟩ := HM.out
        obtain ⟨mm4, X4⟩ := HM4.out
        obtain ⟨r0, r1, r2, r3, r4, r5, r6⟩ := cells_7 (put_7 (y0 := .int .i64 x.1) (y1 := .int .i64 x.2.1) (y2 := .int .i64 x.2.2.1) (y3 := .int .i64 x.2.2.2.1) (y4 := .int .i64 x.2.2.2.2.1) (y5 := .slice av9 x.2.2.2.2.2.1.length cv9) (y6 := .int .i64 x.2.2.2.2.2.2) X4)
        have z3 : w2.heap.size ≤ w3.heap.size := mm.2.size
        have z4 := mm4.2.size
        refine bodyPost_ret (v := .tuple #[.slice av (xs.eraseIdx n).length cv, .agg #[.int .i64 x.1, .int .i64 x.2.1, .int .i64 x.2.2.1, .int .i64 x.2.2.2.1, .int .i64 x.2.2.2.2.1, .slice av9 x.2.2.2.2.2.1.length cv9, .int .i64 x.2.2.2.2.2.2], .bool true]) (by simp [results, Try.results18, go_sem, r0, r1, r2, r3, r4, r5, r6]) rfl ⟨av, cv, av9, cv9, rfl, ⟨[_], [_, _, _, _, _, _, _], rng w2.heap.size w3.heap.size, rng w3.heap.size w4.heap.size, rfl, own_setC (own_setC (own_setC (own_setC (own_setC (own_setC (own_setC (msgsR.own_keep mm.1 (keeps_below mm4.2)) (fun h => by have := h.1; omega)) (fun h => by have := h.1; omega)) (fun h => by have := h.1; omega)) (fun h => by have := h.1; omega)) (fun h => by have := h.1; omega)) (fun h => by have := h.1; omega)) (fun h => by have := h.1; omega), own_setC (own_setC (own_setC (own_setC (own_setC (own_setC (own_setC (mm4.1) (fun h => by have := h.1; omega)) (fun h => by have := h.1; omega)) (fun h => by have := h.1; omega)) (fun h => by have := h.1; omega)) (fun h => by have := h.1; omega)) (fun h => by have := h.1; omega)) (fun h => by have := h.1; omega), rng_sub (by omega) (by simp; omega), rng_sub (by omega) (by simp), rng_dis (.inl (Nat.le_refl _))⟩, below_setC (below_setC (below_setC (below_setC (below_setC (below_setC (below_setC (below_step Q1 mm4.2) (by omega)) (by omega)) (by omega)) (by omega)) (by omega)) (by omega)) (by omega)⟩
end Go.Proofs.Ytfflmbpjolgghaa
