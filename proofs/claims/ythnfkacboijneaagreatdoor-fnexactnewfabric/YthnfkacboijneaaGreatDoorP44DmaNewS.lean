import Derived.Test.YthnfkacboijneaaGreatDoorP43DmaNew
namespace Go.Proofs.YthnfkacboijneaaGreatDoor
set_option maxHeartbeats 4000000
set_option maxRecDepth 20000
open Go.ChangeShapes Go.WideShapes Go.ChangeAt Go.RowKit
set_option linter.unusedVariables false
set_option linter.unusedSimpArgs false
theorem own_nil1 {α : Type} {e : TypeId} {R : Rep α} (w : World) (S : Foot) : (slR e R).own w S [.slice none 0 0] [] := ⟨_, [], fun _ => False, rfl, World.ownsRow_nil _ _ _ _, fun g hg => by simp [Value.ownBlock] at hg, fun _ h => h.elim, rfl⟩
theorem row_by {w w2 : World} {S : Foot} {g B : Nat} {x : Obj} (h : w.heap[g]? = some x) (n : Chg (Old w S) w w2) (hs : ∀ k, S k → B ≤ k) (hg : g < B) : w2.heap[g]? = some x := (n.block g (Array.getElem?_eq_some_iff.1 h).1 (fun q => by have := hs g q.1; omega)).trans h
structure CpD (w : World) (xs : List DescD) (pa : Option Addr) (pc : Nat) (i : Value) (wr : World) : Prop where
 ex : ∃ (k : Nat) (au : Option Addr) (cu : Nat), k ≤ xs.length ∧ i = .int .i64 k ∧ wr.heap[w.heap.size]? = some (.cells #[.slice pa xs.length pc, .int .i64 0, .bool false, .slice none 0 0] 45 (0, 0)) ∧ wr.heap[w.heap.size + 1]? = some (.cells #[.slice none 0 0, .int .i64 0, .bool false, .slice none 0 0] 45 (0, 0)) ∧ wr.heap[w.heap.size + 2]? = some (.cells #[.slice au k cu, .int .i64 0, .bool false, .slice none 0 0] 45 (0, 0)) ∧ Owned descsR (w.heap.size + 3) wr.heap.size wr [.slice au k cu] (xs.take k) ∧ Below w.heap.size w wr ∧ w.heap.size + 3 ≤ wr.heap.size
theorem l14Copy_z (xs : List DescD) (pa : Option Addr) (pc : Nat) (w : World) (h : SlRd descR w pa xs) (hm : xs.length ≤ 1000) (hd : ∀ u ∈ xs, u.2.2.2.length ≤ 1048576) :
    Calls Tryz.prog 125 #[.agg #[.slice pa xs.length pc, .int .i64 0, .bool false, .slice none 0 0]] w fun e w' => ∃ na nc ra rc, e = .returned (.agg #[.slice na xs.length nc, .int .i64 0, .bool false, .slice ra 0 rc]) ∧ MadeR dmaR w w' [.slice na xs.length nc, .int .i64 0, .bool false, .slice ra 0 rc] (xs, 0, false, []) := by
 have HS : Hid (∀ W, Below w.heap.size w W → SlRd descR W pa xs) := fun W hb => slrd_next h hb
 have HD : Hid _ := hd
 clear h hd
 have B := Below.refl w.heap.size w
 go_enter Tryz.func125, Tryz.ntmps125
 go_upto_region 2 with fail
 have X := heap_at w (.cells #[.slice pa xs.length pc, .int .i64 0, .bool false, .slice none 0 0] 45)
 have bz := box_below w (.cells #[.slice pa xs.length pc, .int .i64 0, .bool false, .slice none 0 0] 45)
 have zX := alloc_len w (.cells #[.slice pa xs.length pc, .int .i64 0, .bool false, .slice none 0 0] 45)
 replace B := below_step B bz
 clear bz
 generalize w.alloc (.cells #[.slice pa xs.length pc, .int .i64 0, .bool false, .slice none 0 0] 45) = u1w at B X zX ⊢
 have zXa := Nat.le_of_eq zX
 have zXb := Nat.le_of_eq zX.symm
 clear zX
 have R := heap_at u1w (.cells #[.slice none 0 0, .int .i64 0, .bool false, .slice none 0 0] 45)
 have bz := box_below u1w (.cells #[.slice none 0 0, .int .i64 0, .bool false, .slice none 0 0] 45)
 have zR := alloc_len u1w (.cells #[.slice none 0 0, .int .i64 0, .bool false, .slice none 0 0] 45)
 rw [show u1w.heap.size = w.heap.size + 1 from by omega] at R
 replace B := below_step B bz
 replace X := row_keep bz X
 clear bz
 generalize u1w.alloc (.cells #[.slice none 0 0, .int .i64 0, .bool false, .slice none 0 0] 45) = u2w at B X R zR ⊢
 have zRa := Nat.le_of_eq zR
 have zRb := Nat.le_of_eq zR.symm
 clear zR
 have Y := heap_at u2w (.cells #[.slice none 0 0, .int .i64 0, .bool false, .slice none 0 0] 45)
 have bz := box_below u2w (.cells #[.slice none 0 0, .int .i64 0, .bool false, .slice none 0 0] 45)
 have zY := alloc_len u2w (.cells #[.slice none 0 0, .int .i64 0, .bool false, .slice none 0 0] 45)
 rw [show u2w.heap.size = w.heap.size + 2 from by omega] at Y
 replace B := below_step B bz
 replace X := row_keep bz X
 replace R := row_keep bz R
 clear bz
 generalize u2w.alloc (.cells #[.slice none 0 0, .int .i64 0, .bool false, .slice none 0 0] 45) = u3w at B X R Y zY ⊢
 have zYa := Nat.le_of_eq zY
 have zYb := Nat.le_of_eq zY.symm
 clear zY
 have L0 : Owned descsR (w.heap.size + 3) u3w.heap.size u3w [.slice none 0 0] (xs.take 0) := ⟨own_nil1 _ _, Nat.le_refl _⟩
 have ST : Hid (CpD w xs pa pc (.int .i64 0) u3w) := ⟨0, none, 0, Nat.zero_le _, rfl, X, R, Y, L0, B, by omega⟩
 obtain ⟨Xc0, Xc1, Xc2, Xc3⟩ := cells_4 X
 have Xlt := (Array.getElem?_eq_some_iff.1 X).1
 obtain ⟨Rc0, Rc1, Rc2, Rc3⟩ := cells_4 R
 have Rlt := (Array.getElem?_eq_some_iff.1 R).1
 obtain ⟨Yc0, Yc1, Yc2, Yc3⟩ := cells_4 Y
 have Ylt := (Array.getElem?_eq_some_iff.1 Y).1
 go_wp2
 clear Xc0 Xc1 Xc2 Xc3 Xlt Rc0 Rc1 Rc2 Rc3 Rlt Yc0 Yc1 Yc2 Yc3 Ylt
 clear X R Y B L0
 go_loopw [4] (fun i wr => CpD w xs pa pc i wr) (fun i _ => xs.length - (intOf i).toNat)
 case atStart => exact ST.out
 case round =>
  clear ST
  obtain ⟨k, au, cu, hk, rfl, X, R, Y, O, B, hsz⟩ := hrel.ex
  clear hrel
  by_cases hlt : k < xs.length
  ·have hlt' : (k : Int) < (xs.length : Int) := by omega
   obtain ⟨u, hx⟩ : ∃ u, xs[k]? = some u := ⟨_, List.getElem?_eq_getElem hlt⟩
   obtain ⟨b, off, cs, rfl, hrdx, hcell⟩ := slrd_at (HS.out _ B) hx
   obtain ⟨da, dc, rfl, i1, i2, hd1, hd2, hd3⟩ := desc_rd hrdx
   have x0 := hcell 0 _ rfl
   rw [show off + (k * descR.size + 0) = off + k * 4 from rfl] at x0
   have x1 := hcell 1 _ rfl
   rw [show off + (k * descR.size + 1) = off + k * 4 + 1 from rfl] at x1
   have x2 := hcell 2 _ rfl
   rw [show off + (k * descR.size + 2) = off + k * 4 + 2 from rfl] at x2
   have x3 := hcell 3 _ rfl
   rw [show off + (k * descR.size + 3) = off + k * 4 + 3 from rfl] at x3
   have HDS : Hid (∀ W, Below wr.heap.size wr W → SlRd intR W da u.2.2.2) := fun W hb => slrd_next hd3 hb
   have HDL : Hid _ := HD.out u (List.mem_of_getElem? hx)
   have HTK : Hid (xs.take k ++ [u] = xs.take (k + 1)) := by unfold Hid; rw [List.take_add_one, hx]; rfl
   have HTL : Hid ((xs.take k).length = k) := by unfold Hid; rw [List.length_take]; omega
   have HI : Hid _ := And.intro i1 i2
   obtain ⟨ti, hi, hz0, hz1, hz2⟩ := info_parts Tryz.infoDesc
   have B1 := Below.refl wr.heap.size wr
   clear hcell hrdx hd1 hd2 hd3 i1 i2 hx
   obtain ⟨Xc0, Xc1, Xc2, Xc3⟩ := cells_4 X
   have Xlt := (Array.getElem?_eq_some_iff.1 X).1
   obtain ⟨Rc0, Rc1, Rc2, Rc3⟩ := cells_4 R
   have Rlt := (Array.getElem?_eq_some_iff.1 R).1
   obtain ⟨Yc0, Yc1, Yc2, Yc3⟩ := cells_4 Y
   have Ylt := (Array.getElem?_eq_some_iff.1 Y).1
   go_upto_region 6 with fail
   clear Xc0 Xc1 Xc2 Xc3 Xlt Rc0 Rc1 Rc2 Rc3 Rlt Yc0 Yc1 Yc2 Yc3 Ylt
   clear x0 x1 x2 x3
   have E := heap_at wr (.cells #[.bool u.1, .int .i64 u.2.1, .int .i64 u.2.2.1, .slice da u.2.2.2.length dc] 125)
   have bz := box_below wr (.cells #[.bool u.1, .int .i64 u.2.1, .int .i64 u.2.2.1, .slice da u.2.2.2.length dc] 125)
   have zE := alloc_len wr (.cells #[.bool u.1, .int .i64 u.2.1, .int .i64 u.2.2.1, .slice da u.2.2.2.length dc] 125)
   replace B := below_step B bz
   replace X := row_keep bz X
   replace R := row_keep bz R
   replace Y := row_keep bz Y
   replace O := owned_next O bz
   clear bz
   have BE := box_below wr (.cells #[.bool u.1, .int .i64 u.2.1, .int .i64 u.2.2.1, .slice da u.2.2.2.length dc] 125)
   generalize wr.alloc (.cells #[.bool u.1, .int .i64 u.2.1, .int .i64 u.2.2.1, .slice da u.2.2.2.length dc] 125) = u4w at BE B X R Y E O zE ⊢
   have zEa := Nat.le_of_eq zE
   have zEb := Nat.le_of_eq zE.symm
   clear zE
   obtain ⟨Xc0, Xc1, Xc2, Xc3⟩ := cells_4 X
   have Xlt := (Array.getElem?_eq_some_iff.1 X).1
   obtain ⟨Rc0, Rc1, Rc2, Rc3⟩ := cells_4 R
   have Rlt := (Array.getElem?_eq_some_iff.1 R).1
   obtain ⟨Yc0, Yc1, Yc2, Yc3⟩ := cells_4 Y
   have Ylt := (Array.getElem?_eq_some_iff.1 Y).1
   obtain ⟨Ec0, Ec1, Ec2, Ec3⟩ := cells_4 E
   have Elt := (Array.getElem?_eq_some_iff.1 E).1
   go_wp2_with fail
   clear Xc0 Xc1 Xc2 Xc3 Xlt Rc0 Rc1 Rc2 Rc3 Rlt Yc0 Yc1 Yc2 Yc3 Ylt Ec0 Ec1 Ec2 Ec3 Elt
   have HDW : SlRd intR u4w da u.2.2.2 := HDS.out _ BE
   refine (l1Copy_rep da u.2.2.2 dc _ HDW HDL.out).mono ?_
   rintro e u5w ⟨vn, rfl, mm⟩
   obtain ⟨na, nc, rfl⟩ := slown_val mm.1
   have D := owned_made (R := intsR) mm
   have mb := mm.2
   have tu5w : u4w.heap.size ≤ u5w.heap.size := mb.size
   replace B := below_step B mb
   replace X := row_keep mb X
   replace R := row_keep mb R
   replace Y := row_keep mb Y
   replace E := row_keep mb E
   replace O := owned_next O mb
   clear mb mm
   clear HDW BE HDS HDL
   obtain ⟨Xc0, Xc1, Xc2, Xc3⟩ := cells_4 X
   have Xlt := (Array.getElem?_eq_some_iff.1 X).1
   obtain ⟨Rc0, Rc1, Rc2, Rc3⟩ := cells_4 R
   have Rlt := (Array.getElem?_eq_some_iff.1 R).1
   obtain ⟨Yc0, Yc1, Yc2, Yc3⟩ := cells_4 Y
   have Ylt := (Array.getElem?_eq_some_iff.1 Y).1
   obtain ⟨Ec0, Ec1, Ec2, Ec3⟩ := cells_4 E
   have Elt := (Array.getElem?_eq_some_iff.1 E).1
   obtain ⟨Ef0, Ef1, Ef2, Ef3⟩ := froz_4 E
   go_upto_region 7 with fail
   clear Xc0 Xc1 Xc2 Xc3 Xlt Rc0 Rc1 Rc2 Rc3 Rlt Yc0 Yc1 Yc2 Yc3 Ylt Ec0 Ec1 Ec2 Ec3 Elt Ef0 Ef1 Ef2 Ef3
   rw [show (u5w.setCell ⟨wr.heap.size, 3, none⟩ (.slice na u.2.2.2.length nc)) = (setCs u5w (wr.heap.size) 3 [.slice na u.2.2.2.length nc]) from rfl]
   replace X := row_otherCs (g := wr.heap.size) (o := 3) (vs := [.slice na u.2.2.2.length nc]) X (by omega)
   replace R := row_otherCs (g := wr.heap.size) (o := 3) (vs := [.slice na u.2.2.2.length nc]) R (by omega)
   replace Y := row_otherCs (g := wr.heap.size) (o := 3) (vs := [.slice na u.2.2.2.length nc]) Y (by omega)
   replace O := owned_setCs (g := wr.heap.size) (o := 3) (vs := [.slice na u.2.2.2.length nc]) O (by omega)
   replace D := owned_setCs (g := wr.heap.size) (o := 3) (vs := [.slice na u.2.2.2.length nc]) D (by omega)
   replace B := below_setCs0 (g := wr.heap.size) (o := 3) (vs := [.slice na u.2.2.2.length nc]) B (by omega)
   replace E : (setCs u5w (wr.heap.size) 3 [.slice na u.2.2.2.length nc]).heap[wr.heap.size]? = some (.cells #[.bool u.1, .int .i64 u.2.1, .int .i64 u.2.2.1, .slice na u.2.2.2.length nc] 125 (0, 0)) := row_setCs _ _ E
   have tu6w := Nat.le_of_eq (setCs_size (g := wr.heap.size) [.slice na u.2.2.2.length nc] 3 u5w)
   have qu6w := Nat.le_of_eq (setCs_size (g := wr.heap.size) [.slice na u.2.2.2.length nc] 3 u5w).symm
   generalize (setCs u5w (wr.heap.size) 3 [.slice na u.2.2.2.length nc]) = u6w at B X R Y E O D tu6w qu6w ⊢
   obtain ⟨Xc0, Xc1, Xc2, Xc3⟩ := cells_4 X
   have Xlt := (Array.getElem?_eq_some_iff.1 X).1
   obtain ⟨Rc0, Rc1, Rc2, Rc3⟩ := cells_4 R
   have Rlt := (Array.getElem?_eq_some_iff.1 R).1
   obtain ⟨Yc0, Yc1, Yc2, Yc3⟩ := cells_4 Y
   have Ylt := (Array.getElem?_eq_some_iff.1 Y).1
   obtain ⟨Yf0, Yf1, Yf2, Yf3⟩ := froz_4 Y
   obtain ⟨Ec0, Ec1, Ec2, Ec3⟩ := cells_4 E
   have Elt := (Array.getElem?_eq_some_iff.1 E).1
   go_wp2_with (at_builtin; refine wpList_push rfl _ _ 43 rfl descR 125 ti (.agg #[.bool false, .int .i64 0, .int .i64 0, .slice none 0 0]) 48 Tryz.underlying43 hi hz0 hz1 hz2 rfl (by decide) (by decide) (w.heap.size + 3) (rng (w.heap.size + 3) wr.heap.size) (rng u4w.heap.size u5w.heap.size) (.slice au k cu) (xs.take k) [.bool u.1, .int .i64 u.2.1, .int .i64 u.2.2.1, .slice na u.2.2.2.length nc] u 1 rfl _ rfl rfl O.1 (own_desc HI.out.1 HI.out.2 D.1) (rng_dis (.inl (by omega))) (fun q hq => hq.1) (fun q hq => by have := hq.1; omega) (by omega) ?c1 ?c2 ?c3 ?_)
   case c1 => intro q hq; simp at hq; rcases hq with rfl | rfl | rfl | rfl <;> rfl
   case c2 => rw [HTL.out]; unfold maxLen; omega
   case c3 => rw [HTL.out]; omega
   clear Xc0 Xc1 Xc2 Xc3 Xlt Rc0 Rc1 Rc2 Rc3 Rlt Yc0 Yc1 Yc2 Yc3 Ylt Yf0 Yf1 Yf2 Yf3 Ec0 Ec1 Ec2 Ec3 Elt
   intro g' cap' w2 N1 N2
   try rw [HTL.out] at N1
   try rw [HTL.out]
   rw [HTK.out] at N1
   have X2 := row_by (B := w.heap.size + 3) X N2 (fun q hq => hq.1) (by omega)
   have R2 := row_by (B := w.heap.size + 3) R N2 (fun q hq => hq.1) (by omega)
   have Y2 := row_by (B := w.heap.size + 3) Y N2 (fun q hq => hq.1) (by omega)
   have BB2 : Below w.heap.size w w2 := below_by B (by omega) N2 (fun q hq => by have := hq.1; omega)
   have sz2 := N2.size
   have HE : Hid (CpD w xs _ pc (.int .i64 ((k + 1 : Nat) : Int)) (setCs w2 (w.heap.size + 2) 0 [.slice (some ⟨g', 0, none⟩) (k + 1) cap'])) := ⟨k + 1, some ⟨g', 0, none⟩, cap', by omega, rfl, row_otherCs (g := w.heap.size + 2) (o := 0) (vs := [.slice (some ⟨g', 0, none⟩) (k + 1) cap']) X2 (by omega), row_otherCs (g := w.heap.size + 2) (o := 0) (vs := [.slice (some ⟨g', 0, none⟩) (k + 1) cap']) R2 (by omega), row_setCs (g := w.heap.size + 2) [.slice (some ⟨g', 0, none⟩) (k + 1) cap'] 0 Y2, (by have q := owned_setCs (R := descsR) (g := w.heap.size + 2) (o := 0) (vs := [.slice (some ⟨g', 0, none⟩) (k + 1) cap']) (⟨N1, Nat.le_refl _⟩ : Owned descsR (w.heap.size + 3) w2.heap.size w2 _ _) (by omega); rw [setCs_size]; exact q), below_setCs0 (g := w.heap.size + 2) (o := 0) (vs := [.slice (some ⟨g', 0, none⟩) (k + 1) cap']) BB2 (by omega), by rw [setCs_size]; omega⟩
   obtain ⟨y0, y1, y2, y3⟩ := cells_4 Y2
   obtain ⟨f0, f1, f2, f3⟩ := froz_4 Y2
   have y2lt := (Array.getElem?_eq_some_iff.1 Y2).1
   clear X2 R2 Y2 BB2 N1 N2 X R Y E O D B
   go_wp2
   go_roundw
   case rel => exact HE.out
   case measure => simp [intOf]; omega
  ·have hkn : k = xs.length := by omega
   subst hkn
   rw [List.take_length] at O
   obtain ⟨Xc0, Xc1, Xc2, Xc3⟩ := cells_4 X
   have Xlt := (Array.getElem?_eq_some_iff.1 X).1
   obtain ⟨Rc0, Rc1, Rc2, Rc3⟩ := cells_4 R
   have Rlt := (Array.getElem?_eq_some_iff.1 R).1
   obtain ⟨Yc0, Yc1, Yc2, Yc3⟩ := cells_4 Y
   have Ylt := (Array.getElem?_eq_some_iff.1 Y).1
   go_wp2
   refine wp_loop_rounds 1 ?_
   rw [rounds_succ]
   clear Xc0 Xc1 Xc2 Xc3 Xlt Rc0 Rc1 Rc2 Rc3 Rlt Yc0 Yc1 Yc2 Yc3 Ylt
   obtain ⟨Xc0, Xc1, Xc2, Xc3⟩ := cells_4 X
   have Xlt := (Array.getElem?_eq_some_iff.1 X).1
   obtain ⟨Rc0, Rc1, Rc2, Rc3⟩ := cells_4 R
   have Rlt := (Array.getElem?_eq_some_iff.1 R).1
   obtain ⟨Rf0, Rf1, Rf2, Rf3⟩ := froz_4 R
   obtain ⟨Yc0, Yc1, Yc2, Yc3⟩ := cells_4 Y
   have Ylt := (Array.getElem?_eq_some_iff.1 Y).1
   have HK : Hid _ := And.intro X (And.intro R (And.intro Y (And.intro O B)))
   clear X R Y O B
   go_wp2
   clear Xc0 Xc1 Xc2 Xc3 Xlt Rc0 Rc1 Rc2 Rc3 Rlt Rf0 Rf1 Rf2 Rf3 Yc0 Yc1 Yc2 Yc3 Ylt
   obtain ⟨X, R, Y, O, B⟩ := HK.out
   obtain ⟨r0, r1, r2, r3⟩ := cells_4 (put_4 (y0 := .slice au xs.length cu) (y1 := .int .i64 0) (y2 := .bool false) (y3 := .slice none 0 0) R)
   have OP := owned_setCs (g := w.heap.size + 1) (o := 0) (vs := [.slice au xs.length cu, .int .i64 0, .bool false, .slice none 0 0]) O (by omega)
   refine bodyPost_ret (v := .agg #[.slice au xs.length cu, .int .i64 0, .bool false, .slice none 0 0]) (by simp [results, Tryz.results125, go_sem, r0, r1, r2, r3]) rfl ⟨au, cu, none, 0, rfl, own_dma (x := (xs, 0, false, [])) (S3 := fun _ => False) (show In64 0 by constructor <;> omega) OP.1 (own_nil1 _ _) (rng_sub (by omega) OP.2) (fun _ h => h.elim) (fun _ _ h => h), below_setCs0 (g := w.heap.size + 1) (o := 0) (vs := [.slice au xs.length cu, .int .i64 0, .bool false, .slice none 0 0]) B (by omega)⟩
theorem specNewDma_z (xs : List DescD) (pa : Option Addr) (pc : Nat) (w : World) (hk : dmaS (xs, 0, false, []) = true) (hr : dmaR.rd w [.slice pa xs.length pc, .int .i64 0, .bool false, .slice none 0 0] (xs, 0, false, [])) (h : SlRd descR w pa xs) (hm : xs.length ≤ 1000) (hd : ∀ u ∈ xs, u.2.2.2.length ≤ 1048576) :
    Calls Tryz.prog 58 #[.slice pa xs.length pc] w fun e w' => ∃ na nc ra rc, e = .returned (.tuple #[.agg #[.slice na xs.length nc, .int .i64 0, .bool false, .slice ra 0 rc], .bool true]) ∧ MadeR dmaR w w' [.slice na xs.length nc, .int .i64 0, .bool false, .slice ra 0 rc] (xs, 0, false, []) := by
 have HO : Hid (∀ W, Below w.heap.size w W → Calls Tryz.prog 30 #[.agg #[.slice pa xs.length pc, .int .i64 0, .bool false, .slice none 0 0]] W fun e w' => e = .returned (.bool true) ∧ Below W.heap.size W w') := fun W hb => by
  have := specDmaOk_u [.slice pa xs.length pc, .int .i64 0, .bool false, .slice none 0 0] (xs, 0, false, []) W (rd_next hr hb)
  rw [hk] at this
  exact this
 have HS : Hid (∀ W, Below w.heap.size w W → SlRd descR W pa xs) := fun W hb => slrd_next h hb
 have HD : Hid _ := hd
 clear h hd hr
 have B := Below.refl w.heap.size w
 go_enter Tryz.func58, Tryz.ntmps58
 go_upto_region 2 with fail
 have R := heap_at w (.cells #[.slice none 0 0, .int .i64 0, .bool false, .slice none 0 0] 45)
 have bz := box_below w (.cells #[.slice none 0 0, .int .i64 0, .bool false, .slice none 0 0] 45)
 have zR := alloc_len w (.cells #[.slice none 0 0, .int .i64 0, .bool false, .slice none 0 0] 45)
 replace B := below_step B bz
 clear bz
 generalize w.alloc (.cells #[.slice none 0 0, .int .i64 0, .bool false, .slice none 0 0] 45) = u1w at B R zR ⊢
 have zRa := Nat.le_of_eq zR
 have zRb := Nat.le_of_eq zR.symm
 clear zR
 have X := heap_at u1w (.cells #[.slice pa xs.length pc, .int .i64 0, .bool false, .slice none 0 0] 45)
 have bz := box_below u1w (.cells #[.slice pa xs.length pc, .int .i64 0, .bool false, .slice none 0 0] 45)
 have zX := alloc_len u1w (.cells #[.slice pa xs.length pc, .int .i64 0, .bool false, .slice none 0 0] 45)
 rw [show u1w.heap.size = w.heap.size + 1 from by omega] at X
 replace B := below_step B bz
 replace R := row_keep bz R
 clear bz
 generalize u1w.alloc (.cells #[.slice pa xs.length pc, .int .i64 0, .bool false, .slice none 0 0] 45) = u2w at B R X zX ⊢
 have zXa := Nat.le_of_eq zX
 have zXb := Nat.le_of_eq zX.symm
 clear zX
 obtain ⟨Rc0, Rc1, Rc2, Rc3⟩ := cells_4 R
 have Rlt := (Array.getElem?_eq_some_iff.1 R).1
 obtain ⟨Xc0, Xc1, Xc2, Xc3⟩ := cells_4 X
 have Xlt := (Array.getElem?_eq_some_iff.1 X).1
 go_wp2_with fail
 clear Rc0 Rc1 Rc2 Rc3 Rlt Xc0 Xc1 Xc2 Xc3 Xlt
 refine (HO.out _ B).mono ?_
 rintro e u3w ⟨rfl, bq⟩
 have tu3w : u2w.heap.size ≤ u3w.heap.size := bq.size
 replace B := below_step B bq
 replace R := row_keep bq R
 replace X := row_keep bq X
 clear bq
 obtain ⟨Rc0, Rc1, Rc2, Rc3⟩ := cells_4 R
 have Rlt := (Array.getElem?_eq_some_iff.1 R).1
 obtain ⟨Xc0, Xc1, Xc2, Xc3⟩ := cells_4 X
 have Xlt := (Array.getElem?_eq_some_iff.1 X).1
 go_wp2_with fail
 clear Rc0 Rc1 Rc2 Rc3 Rlt Xc0 Xc1 Xc2 Xc3 Xlt
 refine (l14Copy_z xs pa pc _ (HS.out _ B) hm HD.out).mono ?_
 rintro e u4w ⟨na, nc, ra, rc, rfl, mm⟩
 have P := owned_made (R := dmaR) mm
 have mb := mm.2
 have tu4w : u3w.heap.size ≤ u4w.heap.size := mb.size
 replace B := below_step B mb
 replace R := row_keep mb R
 replace X := row_keep mb X
 clear mb mm
 obtain ⟨Rc0, Rc1, Rc2, Rc3⟩ := cells_4 R
 have Rlt := (Array.getElem?_eq_some_iff.1 R).1
 obtain ⟨Rf0, Rf1, Rf2, Rf3⟩ := froz_4 R
 obtain ⟨Xc0, Xc1, Xc2, Xc3⟩ := cells_4 X
 have Xlt := (Array.getElem?_eq_some_iff.1 X).1
 have HK : Hid _ := And.intro R (And.intro B P)
 clear R B P
 go_wp2
 clear Rc0 Rc1 Rc2 Rc3 Rlt Rf0 Rf1 Rf2 Rf3 Xc0 Xc1 Xc2 Xc3 Xlt
 obtain ⟨R, B, P⟩ := HK.out
 obtain ⟨r0, r1, r2, r3⟩ := cells_4 (put_4 (y0 := .slice na xs.length nc) (y1 := .int .i64 0) (y2 := .bool false) (y3 := .slice ra 0 rc) R)
 have OP := (owned_setCs (g := w.heap.size) (o := 0) (vs := [.slice na xs.length nc, .int .i64 0, .bool false, .slice ra 0 rc]) P (by omega))
 refine bodyPost_ret (v := .tuple #[.agg #[.slice na xs.length nc, .int .i64 0, .bool false, .slice ra 0 rc], .bool true]) (by simp [results, Tryz.results58, go_sem, r0, r1, r2, r3]) rfl ⟨na, nc, ra, rc, rfl, dmaR.own_mono OP.1 (rng_sub (by omega) OP.2), below_setCs0 (g := w.heap.size) (o := 0) (vs := [.slice na xs.length nc, .int .i64 0, .bool false, .slice ra 0 rc]) B (by omega)⟩
end Go.Proofs.YthnfkacboijneaaGreatDoor
