import Derived.Test.YthnfkacboijneaaGreatDoorP41DmaOkS
import Derived.Test.YthnfkacboijneaaGreatDoorP42FabC
import Derived.Test.YthnfkacboijneaaGreatDoorP33Mems6
import Derived.Test.YthnfkacboijneaaGreatDoorP17UEnt
import Derived.Test.YthnfkacboijneaaGreatDoorP05Boxes
import Derived.Test.YthnfkacboijneaaGreatDoorP14OpSS
namespace Go.Proofs.YthnfkacboijneaaGreatDoor
set_option maxHeartbeats 4000000
set_option maxRecDepth 20000
open Go.ChangeShapes Go.WideShapes Go.ChangeAt Go.RowKit
set_option linter.unusedVariables false
set_option linter.unusedSimpArgs false
theorem below_by {B : Nat} {w0 w1 w2 : World} {S : Foot} (h : Below B w0 w1) (hB : B ≤ w1.heap.size) (n : Chg (Old w1 S) w1 w2) (hs : ∀ k, S k → B ≤ k) : Below B w0 w2 :=
 ⟨n.os.trans h.os, n.tape.trans h.tape, n.output.trans h.output, Nat.le_trans h.size n.size, fun j hj => (n.block j (Nat.lt_of_lt_of_le hj hB) (fun q => by have := hs j q.1; omega)).trans (h.block j hj)⟩
theorem wpList_pm {α : Type} {P : Program} {w0 wr w1 : World} {ops : Array Oper} {rest : List Oper} {o : Oper} {a : Act} {Q : Exit → Act → World → Prop} (hgd : o.guard = none) (s x : Operand) (t : TypeId)
    (ho : o.op = .call { callee := .builtin .append, args := #[s, x], argTypes := #[t, t] })
    (R : Rep α) (e : TypeId) (i : TypeInfo) (z : Value) (bytes : Nat) (ht : P.underlying t = some (.slice e)) (hi : P.info? e = some i) (hz : i.zero = some z) (hsize : i.size = R.size) (hby : i.bytes = bytes) (hzs : z.cells.size = R.size) (hsz : 0 < R.size) (hty : e ∉ R.tys)
    (v : Value) (xs : List α) (c : List Value) (y : α) (cc : Nat) (hs : a.eval s = v) (qb : Nat) (hx : a.eval x = .slice (some ⟨qb, 0, none⟩) 1 cc) (hq : qb = w1.heap.size)
    (M : MadeR (slR e R) w0 wr [v] xs) (hb : Below wr.heap.size wr w1) (Y : R.own w1 (rng wr.heap.size w1.heap.size) c y) (hone : ∀ u ∈ c, u.oneCell' = true) (hlen : xs.length + 1 ≤ maxLen) (hbytes : (xs.length + 1) * bytes ≤ 140737488355328)
    (k : ∀ g' cap' w2, MadeR (slR e R) w0 w2 [.slice (some ⟨g', 0, none⟩) (xs.length + 1) cap'] (xs ++ [y]) → Chg (rng w0.heap.size w1.heap.size) w1 w2 → wpList P ops Q rest (a.put o.dst (.slice (some ⟨g', 0, none⟩) (xs.length + 1) cap')) w2) :
    wpList P ops Q (o :: rest) a (w1.alloc (.cells c.toArray e)) := by
 have h0 := M.2.size
 have h1 := below_step M.2 hb
 refine wpList_push hgd s x t ho R e i z bytes ht hi hz hsize hby hzs hsz hty w0.heap.size (rng w0.heap.size wr.heap.size) (rng wr.heap.size w1.heap.size) v xs c y cc hs qb hx hq (own_next M.1 hb) Y (rng_dis (.inl (Nat.le_refl _))) (fun k hk => hk.1) (fun k hk => Nat.le_trans h0 hk.1) h1.size hone hlen hbytes ?_
 intro g' cap' w2 N1 N2
 exact k g' cap' w2 ⟨N1, below_by h1 h1.size N2 (fun k hk => hk.1)⟩ (N2.mono (fun k hk => ⟨hk.1.1, hk.2⟩))
theorem run_make_cap {P : Program} (t e : TypeId) (z : Value) (size bytes : Nat) (ht : P.underlying t = some (.slice e)) (hinfo : (P.info? e).map (fun i => (i.zero, i.size, i.bytes)) = some (some z, size, bytes))
    (n : Nat) (hbytes : bytes * n ≤ 281474976710656) (h63 : n ≤ 9223372036854775807) (w : World) :
    (Instr.makeSlice t (.int .i64 0) (.int .i64 (n : Int))).run P w = .ok (.slice (some ⟨w.heap.size, 0, none⟩) 0 n) (w.alloc (.cells (madeCells z.cells (n * size)) e)) := by
 obtain ⟨i, hi, hzz⟩ := Option.map_eq_some_iff.1 hinfo
 simp only [Prod.mk.injEq] at hzz
 obtain ⟨hz, hs, hb⟩ := hzz
 have h2 : (i.bytes : Int) * (n : Int) ≤ 281474976710656 := by rw [hb, ← Int.natCast_mul]; omega
 have := run_make (P := P) w t e i z ht hi hz .i64 .i64 (0 : Int) (n : Int) (by omega) (by omega) h2 (by omega)
 simpa [hs] using this
theorem made_cap {α : Type} {e : TypeId} {R : Rep α} (w : World) (cur : Array Value) (n : Nat) (hm : n ≤ maxLen) (hs : cur.size = n * R.size) : MadeR (slR e R) w (w.alloc (.cells cur e)) [.slice (some ⟨w.heap.size, 0, none⟩) 0 n] [] := by
 refine ⟨⟨_, [], fun _ => False, rfl, World.ownsRow_made (base := 0) (e := e) (size := R.size) w cur n (Nat.zero_le _) hm hs, fun g hg => ?_, fun _ h => h.elim, rfl⟩, box_below w _⟩
 simp [Value.ownBlock] at hg
 subst hg
 exact ⟨⟨Nat.le_refl _, by simp⟩, fun h => h⟩
theorem wordsC_any (a : Addr) (xs : List Int) (cap : Nat) (w : World) (h : Reads w (some a) xs) (hm : xs.length ≤ 1048576) :
    Calls Tryz.prog 208 #[.slice (some a) xs.length cap] w fun e w' => ∃ v, e = .returned v ∧ Made w w' v xs := by
 obtain ⟨i0, hi, hz0, hz1, hz2⟩ := info_parts Tryz.infoI
 have hown : (w.alloc (.cells #[] 2)).ownsRow w.heap.size 2 1 (.slice (some ⟨w.heap.size, 0, none⟩) 0 0) 0 [] := World.ownsRow_lit _ #[] 0 (Nat.le_refl _) (Nat.zero_le _) rfl
 go_enter Tryz.func208, Tryz.ntmps208
 go_wp2_with (at_builtin; refine wpList_append_own _ rfl _ _ 79 rfl w.heap.size 2 i0 (.int .i64 0) 1 8 Tryz.underlying79 hi hz0 hz1 hz2 rfl (by decide) _ _ _ rfl hown a xs.length cap (xs.map (Value.int .i64)) rfl (by simp) ?c1 ?c2 ?c3 ?c4 ?c5 ?_)
 case c1 =>
  intro j u hj
  obtain ⟨hjl, rfl⟩ := List.getElem?_eq_some_iff.1 hj
  simp at hjl
  rcases h with rfl | ⟨b, off, ha, hc⟩
  ·simp at hjl
  simp only [Option.some.injEq] at ha
  subst ha
  have g0 := hc j hjl
  rw [show (⟨b, off, none⟩ : Addr).add j = ⟨b, off + j, none⟩ from by simp [Addr.add], World.cell?_alloc_past _ _ _ (World.block_lt_of_cell? w _ g0), g0]
  simp [List.getD_eq_getElem?_getD, hjl]
 case c2 => intro u hu; simp at hu; obtain ⟨x, _, rfl⟩ := hu; rfl
 case c3 => unfold maxLen; omega
 case c4 => omega
 case c5 => simp
 ·intro v' w1 hown' hgrow hnil
  have hv : v' ≠ .slice none 0 0 := hnil
  have HO : Hid (Made w w1 v' xs) := made_app hown' hgrow hv
  clear hown' hgrow hnil hown
  go_wp2
  go_ret
  exact ⟨_, rfl, HO.out⟩
theorem wordsC_nil (cap : Nat) (w : World) : Calls Tryz.prog 208 #[.slice none 0 cap] w fun e w' => ∃ v, e = .returned v ∧ MadeR intsR w w' [v] [] := by
 obtain ⟨i0, hi, hz0, hz1, hz2⟩ := info_parts Tryz.infoI
 have hown : (w.alloc (.cells #[] 2)).ownsRow w.heap.size 2 1 (.slice (some ⟨w.heap.size, 0, none⟩) 0 0) 0 [] := World.ownsRow_lit _ #[] 0 (Nat.le_refl _) (Nat.zero_le _) rfl
 go_enter Tryz.func208, Tryz.ntmps208
 go_wp2_with (at_builtin; refine wpList_append_zero rfl _ _ 79 rfl w.heap.size 2 i0 1 Tryz.underlying79 hi cap _ _ _ rfl hown rfl ?_)
 go_ret
 exact ⟨_, rfl, made_nothing w⟩
theorem wordsC_rep (a : Option Addr) (xs : List Int) (cap : Nat) (w : World) (h : SlRd intR w a xs) (hm : xs.length ≤ 1048576) :
    Calls Tryz.prog 208 #[.slice a xs.length cap] w fun e w' => ∃ v, e = .returned v ∧ MadeR intsR w w' [v] xs := by
 cases a with
 | some ad => exact (wordsC_any ad xs cap w (reads_of h) hm).mono fun e w' ⟨v, h1, h2⟩ => ⟨v, h1, madeR_ints h2 (in64_of h)⟩
 | none =>
  rcases h with rfl | ⟨b, off, rows, ha, _⟩
  ·exact wordsC_nil cap w
  ·cases ha
theorem descCopied_any (x : DescD) (da : Option Addr) (dc : Nat) (w : World) (i1 : In64 x.2.1) (i2 : In64 x.2.2.1) (h : SlRd intR w da x.2.2.2) (hm : x.2.2.2.length ≤ 1048576) :
    Calls Tryz.prog 206 #[.agg #[.bool x.1, .int .i64 x.2.1, .int .i64 x.2.2.1, .slice da x.2.2.2.length dc]] w fun e w' => ∃ na nc, e = .returned (.agg #[.bool x.1, .int .i64 x.2.1, .int .i64 x.2.2.1, .slice na x.2.2.2.length nc]) ∧ MadeR descR w w' [.bool x.1, .int .i64 x.2.1, .int .i64 x.2.2.1, .slice na x.2.2.2.length nc] x := by
 have HS : Hid (∀ W, Below w.heap.size w W → SlRd intR W da x.2.2.2) := fun W hb => slrd_next h hb
 have HI : Hid _ := And.intro i1 i2
 clear h i1 i2
 have B := Below.refl w.heap.size w
 go_enter Tryz.func206, Tryz.ntmps206
 go_wp2_with fail
 have X := heap_at w (.cells #[.bool x.1, .int .i64 x.2.1, .int .i64 x.2.2.1, .slice da x.2.2.2.length dc] 125)
 have bz := box_below w (.cells #[.bool x.1, .int .i64 x.2.1, .int .i64 x.2.2.1, .slice da x.2.2.2.length dc] 125)
 have zX := alloc_len w (.cells #[.bool x.1, .int .i64 x.2.1, .int .i64 x.2.2.1, .slice da x.2.2.2.length dc] 125)
 replace B := below_step B bz
 clear bz
 generalize w.alloc (.cells #[.bool x.1, .int .i64 x.2.1, .int .i64 x.2.2.1, .slice da x.2.2.2.length dc] 125) = u1w at B X zX ⊢
 have zXa := Nat.le_of_eq zX
 have zXb := Nat.le_of_eq zX.symm
 clear zX
 have R := heap_at u1w (.cells #[.bool false, .int .i64 0, .int .i64 0, .slice none 0 0] 125)
 have bz := box_below u1w (.cells #[.bool false, .int .i64 0, .int .i64 0, .slice none 0 0] 125)
 have zR := alloc_len u1w (.cells #[.bool false, .int .i64 0, .int .i64 0, .slice none 0 0] 125)
 rw [show u1w.heap.size = w.heap.size + 1 from by omega] at R
 replace B := below_step B bz
 replace X := row_keep bz X
 clear bz
 generalize u1w.alloc (.cells #[.bool false, .int .i64 0, .int .i64 0, .slice none 0 0] 125) = u2w at B X R zR ⊢
 have zRa := Nat.le_of_eq zR
 have zRb := Nat.le_of_eq zR.symm
 clear zR
 refine (wordsC_rep da x.2.2.2 dc _ (HS.out _ B) hm).mono ?_
 rintro e u3w ⟨vn, rfl, mm⟩
 obtain ⟨na, nc, rfl⟩ := slown_val mm.1
 have D := owned_made (R := intsR) mm
 have mb := mm.2
 have tu3w : u2w.heap.size ≤ u3w.heap.size := mb.size
 replace B := below_step B mb
 replace X := row_keep mb X
 replace R := row_keep mb R
 clear mb mm
 obtain ⟨Xc0, Xc1, Xc2, Xc3⟩ := cells_4 X
 have Xlt := (Array.getElem?_eq_some_iff.1 X).1
 obtain ⟨Xf0, Xf1, Xf2, Xf3⟩ := froz_4 X
 obtain ⟨Rc0, Rc1, Rc2, Rc3⟩ := cells_4 R
 have Rlt := (Array.getElem?_eq_some_iff.1 R).1
 obtain ⟨Rf0, Rf1, Rf2, Rf3⟩ := froz_4 R
 have HK : Hid _ := And.intro X (And.intro R (And.intro B D))
 clear X R B D
 go_wp2
 clear Xc0 Xc1 Xc2 Xc3 Xlt Xf0 Xf1 Xf2 Xf3 Rc0 Rc1 Rc2 Rc3 Rlt Rf0 Rf1 Rf2 Rf3
 obtain ⟨X, R, B, D⟩ := HK.out
 have R2 : (u3w.setCell ⟨w.heap.size, 3, none⟩ (.slice na x.2.2.2.length nc)).heap[w.heap.size + 1]? = some (.cells #[.bool false, .int .i64 0, .int .i64 0, .slice none 0 0] 125 (0, 0)) := row_otherCs (g := w.heap.size) (o := 3) (vs := [.slice na x.2.2.2.length nc]) R (by omega)
 obtain ⟨r0, r1, r2, r3⟩ := cells_4 (put_4 (y0 := .bool x.1) (y1 := .int .i64 x.2.1) (y2 := .int .i64 x.2.2.1) (y3 := .slice na x.2.2.2.length nc) R2)
 refine bodyPost_ret (v := .agg #[.bool x.1, .int .i64 x.2.1, .int .i64 x.2.2.1, .slice na x.2.2.2.length nc]) (by simp [results, Tryz.results206, go_sem, r0, r1, r2, r3]) rfl ⟨na, nc, rfl, own_desc HI.out.1 HI.out.2 (intsR.own_mono (owned_setCs (g := w.heap.size + 1) (o := 0) (vs := [.bool x.1, .int .i64 x.2.1, .int .i64 x.2.2.1, .slice na x.2.2.2.length nc]) (owned_setCs (g := w.heap.size) (o := 3) (vs := [.slice na x.2.2.2.length nc]) D (by omega)) (by omega)).1 (rng_sub (by omega) (owned_setCs (g := w.heap.size + 1) (o := 0) (vs := [.bool x.1, .int .i64 x.2.1, .int .i64 x.2.2.1, .slice na x.2.2.2.length nc]) (owned_setCs (g := w.heap.size) (o := 3) (vs := [.slice na x.2.2.2.length nc]) D (by omega)) (by omega)).2)), below_setCs0 (g := w.heap.size + 1) (o := 0) (vs := [.bool x.1, .int .i64 x.2.1, .int .i64 x.2.2.1, .slice na x.2.2.2.length nc]) (below_setCs0 (g := w.heap.size) (o := 3) (vs := [.slice na x.2.2.2.length nc]) B (by omega)) (by omega)⟩
theorem eachDesc_any (a : Option Addr) (xs : List DescD) (cap : Nat) (w : World) (h : SlRd descR w a xs) (hm : xs.length ≤ 1000) (hd : ∀ u ∈ xs, u.2.2.2.length ≤ 1048576) :
    Calls Tryz.prog 205 #[.slice a xs.length cap, .func (.func 206) #[] #[]] w fun e w' => ∃ v, e = .returned v ∧ MadeR descsR w w' [v] xs := by
 have H0 : Hid (∀ W, Below w.heap.size w W → SlRd descR W a xs) := fun W hb => slrd_next h hb
 have HD : Hid _ := hd
 have hmk := run_make_cap (P := Tryz.prog) 43 125 (.agg #[.bool false, .int .i64 0, .int .i64 0, .slice none 0 0]) 4 48 Tryz.underlying43 Tryz.infoDesc xs.length (by omega) (by omega)
 have MN := made_cap (e := 125) (R := descR) w (madeCells (Value.agg #[.bool false, .int .i64 0, .int .i64 0, .slice none 0 0]).cells (xs.length * 4)) xs.length (by unfold maxLen; omega) (by rw [size_madeCells]; rfl)
 clear h hd
 go_enter Tryz.func205, Tryz.ntmps205
 go_wp2
 clear hmk
 go_loopw [5, 13] (fun r i wi => ∃ k : Nat, k ≤ xs.length ∧ i = .int .i64 k ∧ ∃ au cu, r = .slice au k cu ∧ MadeR descsR w wi [.slice au k cu] (xs.take k)) (fun _ i _ => xs.length - (intOf i).toNat)
 case atStart => exact ⟨0, Nat.zero_le _, rfl, _, _, rfl, MN⟩
 case round =>
  clear MN
  obtain ⟨k, hk, rfl, au, cu, rfl, M⟩ := hrel
  by_cases hlt : k < xs.length
  ·have hlt' : (k : Int) < (xs.length : Int) := by omega
   obtain ⟨u, hx⟩ : ∃ u, xs[k]? = some u := ⟨_, List.getElem?_eq_getElem hlt⟩
   obtain ⟨b, off, cs, rfl, hrdx, hcell⟩ := slrd_at (H0.out _ M.2) hx
   obtain ⟨da, dc, rfl, i1, i2, hd1, hd2, hd3⟩ := desc_rd hrdx
   have x0 := hcell 0 _ rfl
   rw [show off + (k * descR.size + 0) = off + k * 4 from rfl] at x0
   have x1 := hcell 1 _ rfl
   rw [show off + (k * descR.size + 1) = off + k * 4 + 1 from rfl] at x1
   have x2 := hcell 2 _ rfl
   rw [show off + (k * descR.size + 2) = off + k * 4 + 2 from rfl] at x2
   have x3 := hcell 3 _ rfl
   rw [show off + (k * descR.size + 3) = off + k * 4 + 3 from rfl] at x3
   have HC := descCopied_any u da dc (wr.alloc (.cells #[.bool u.1, .int .i64 u.2.1, .int .i64 u.2.2.1, .slice da u.2.2.2.length dc] 125)) i1 i2 (slrd_next hd3 (box_below wr (.cells #[.bool u.1, .int .i64 u.2.1, .int .i64 u.2.2.1, .slice da u.2.2.2.length dc] 125))) (HD.out u (List.mem_of_getElem? hx))
   have HTK : Hid (xs.take k ++ [u] = xs.take (k + 1)) := by unfold Hid; rw [List.take_add_one, hx]; rfl
   have htl : (xs.take k).length = k := by rw [List.length_take]; omega
   have HTL : Hid ((xs.take k).length = k) := htl
   obtain ⟨ti, hi, hz0, hz1, hz2⟩ := info_parts Tryz.infoDesc
   have HM : Hid _ := M
   have X := heap_at wr (.cells #[.bool u.1, .int .i64 u.2.1, .int .i64 u.2.2.1, .slice da u.2.2.2.length dc] 125)
   clear hcell hrdx hd1 hd2 hd3 i1 i2 hx M htl
   go_upto_region 5 with fail
   clear x0 x1 x2 x3
   have BZ := box_below wr (.cells #[.bool u.1, .int .i64 u.2.1, .int .i64 u.2.2.1, .slice da u.2.2.2.length dc] 125)
   generalize wr.alloc (.cells #[.bool u.1, .int .i64 u.2.1, .int .i64 u.2.2.1, .slice da u.2.2.2.length dc] 125) = wv at HC X BZ ⊢
   obtain ⟨y0, y1, y2, y3⟩ := cells_4 X
   have ylt := (Array.getElem?_eq_some_iff.1 X).1
   go_wp2_with fail
   clear y0 y1 y2 y3 ylt X
   refine HC.mono ?_
   rintro e w9 ⟨na, nc, rfl, mm⟩
   clear HC
   go_wp2_with (at_builtin; refine wpList_pm (w0 := w) (wr := wr) (w1 := w9) rfl _ _ 43 rfl descR 125 ti (.agg #[.bool false, .int .i64 0, .int .i64 0, .slice none 0 0]) 48 Tryz.underlying43 hi hz0 hz1 hz2 rfl (by decide) (by decide) (.slice au k cu) (xs.take k) [.bool u.1, .int .i64 u.2.1, .int .i64 u.2.2.1, .slice na u.2.2.2.length nc] u 1 rfl _ rfl rfl HM.out (below_step BZ mm.2) (descR.own_mono mm.1 (rng_sub (by have := BZ.size; omega) (Nat.le_refl _))) ?c1 ?c2 ?c3 ?_)
   case c1 => intro q hq; simp at hq; rcases hq with rfl | rfl | rfl | rfl <;> rfl
   case c2 => rw [HTL.out]; unfold maxLen; omega
   case c3 => rw [HTL.out]; omega
   intro g' cap' w2 NM NC
   try rw [HTL.out] at NM
   try rw [HTL.out]
   rw [HTK.out] at NM
   have HNM : Hid _ := NM
   clear NM NC mm BZ HM
   go_wp2
   go_roundw
   case rel => exact ⟨k + 1, by omega, by go_num, _, _, rfl, HNM.out⟩
   case measure => simp [intOf]; omega
  ·have hkn : k = xs.length := by omega
   subst hkn
   rw [List.take_length] at M
   have HM : Hid _ := M
   clear M
   go_wp2
   go_ret
   exact ⟨_, rfl, HM.out⟩
theorem Tryz.infoRw : (Tryz.prog.info? 79).map (fun i => (i.zero, i.size, i.bytes)) = some (some (.slice none 0 0), 1, 24) := by kernel_rfl
theorem eachRows_nil (a : Option Addr) (cap : Nat) (f : Value) (w : World) :
    Calls Tryz.prog 207 #[.slice a 0 cap, f] w fun e w' => ∃ v, e = .returned v ∧ MadeR rowsR w w' [v] [] := by
 have hmk : ∀ W : World, (Instr.makeSlice 24 (.int .i64 0) (.int .i64 0)).run Tryz.prog W = .ok (.slice (some ⟨W.heap.size, 0, none⟩) 0 0) (W.alloc (.cells (madeCells (Value.slice none 0 0).cells (0 * 1)) 79)) := fun W => run_make_cap (P := Tryz.prog) 24 79 (.slice none 0 0) 1 24 Tryz.underlying24 Tryz.infoRw 0 (by omega) (by omega) W
 have MN := made_cap (e := 79) (R := intsR) w (madeCells (Value.slice none 0 0).cells (0 * 1)) 0 (by unfold maxLen; omega) (by rw [size_madeCells]; rfl)
 have HM : Hid _ := MN
 clear MN
 go_enter Tryz.func207, Tryz.ntmps207
 go_wp2
 refine wp_loop_rounds 1 ?_
 rw [rounds_succ]
 go_wp2
 go_ret
 exact ⟨_, rfl, HM.out⟩
theorem dmaCopied_z (xs : List DescD) (pa : Option Addr) (pc : Nat) (w : World) (h : SlRd descR w pa xs) (hm : xs.length ≤ 1000) (hd : ∀ u ∈ xs, u.2.2.2.length ≤ 1048576) :
    Calls Tryz.prog 137 #[.agg #[.slice pa xs.length pc, .int .i64 0, .bool false, .slice none 0 0]] w fun e w' => ∃ na nc ra rc, e = .returned (.agg #[.slice na xs.length nc, .int .i64 0, .bool false, .slice ra 0 rc]) ∧ MadeR dmaR w w' [.slice na xs.length nc, .int .i64 0, .bool false, .slice ra 0 rc] (xs, 0, false, []) := by
 have HS : Hid (∀ W, Below w.heap.size w W → SlRd descR W pa xs) := fun W hb => slrd_next h hb
 have HD : Hid _ := hd
 clear h hd
 have B := Below.refl w.heap.size w
 go_enter Tryz.func137, Tryz.ntmps137
 go_wp2_with fail
 have X := heap_at w (.cells #[.slice pa xs.length pc, .int .i64 0, .bool false, .slice none 0 0] 45)
 have bz := box_below w (.cells #[.slice pa xs.length pc, .int .i64 0, .bool false, .slice none 0 0] 45)
 have zX := alloc_len w (.cells #[.slice pa xs.length pc, .int .i64 0, .bool false, .slice none 0 0] 45)
 replace B := below_step B bz
 clear bz
 generalize w.alloc (.cells #[.slice pa xs.length pc, .int .i64 0, .bool false, .slice none 0 0] 45) = u1w at B X zX ⊢
 have zXa := Nat.le_of_eq zX
 have zXb := Nat.le_of_eq zX.symm
 clear zX
 have R := heap_at u1w (.cells #[.slice none 0 0, .int .i64 0, .bool false, .slice none 0 0] 45)
 have bz := box_below u1w (.cells #[.slice none 0 0, .int .i64 0, .bool false, .slice none 0 0] 45)
 have zR := alloc_len u1w (.cells #[.slice none 0 0, .int .i64 0, .bool false, .slice none 0 0] 45)
 rw [show u1w.heap.size = w.heap.size + 1 from by omega] at R
 replace B := below_step B bz
 replace X := row_keep bz X
 clear bz
 generalize u1w.alloc (.cells #[.slice none 0 0, .int .i64 0, .bool false, .slice none 0 0] 45) = u2w at B X R zR ⊢
 have zRa := Nat.le_of_eq zR
 have zRb := Nat.le_of_eq zR.symm
 clear zR
 refine (eachDesc_any pa xs pc _ (HS.out _ B) hm HD.out).mono ?_
 rintro e u3w ⟨vn, rfl, mm⟩
 obtain ⟨na, nc, rfl⟩ := slown_val mm.1
 have P := owned_made (R := descsR) mm
 have mb := mm.2
 have tu3w : u2w.heap.size ≤ u3w.heap.size := mb.size
 replace B := below_step B mb
 replace X := row_keep mb X
 replace R := row_keep mb R
 clear mb mm
 obtain ⟨Xc0, Xc1, Xc2, Xc3⟩ := cells_4 X
 have Xlt := (Array.getElem?_eq_some_iff.1 X).1
 obtain ⟨Xf0, Xf1, Xf2, Xf3⟩ := froz_4 X
 obtain ⟨Rc0, Rc1, Rc2, Rc3⟩ := cells_4 R
 have Rlt := (Array.getElem?_eq_some_iff.1 R).1
 go_wp2_with fail
 clear Xc0 Xc1 Xc2 Xc3 Xlt Xf0 Xf1 Xf2 Xf3 Rc0 Rc1 Rc2 Rc3 Rlt
 rw [show (u3w.setCell ⟨w.heap.size, 0, none⟩ (.slice na xs.length nc)) = (setCs u3w (w.heap.size) 0 [.slice na xs.length nc]) from rfl]
 replace R := row_otherCs (g := w.heap.size) (o := 0) (vs := [.slice na xs.length nc]) R (by omega)
 replace P := owned_setCs (g := w.heap.size) (o := 0) (vs := [.slice na xs.length nc]) P (by omega)
 replace B := below_setCs0 (g := w.heap.size) (o := 0) (vs := [.slice na xs.length nc]) B (by omega)
 replace X : (setCs u3w (w.heap.size) 0 [.slice na xs.length nc]).heap[w.heap.size]? = some (.cells #[.slice na xs.length nc, .int .i64 0, .bool false, .slice none 0 0] 45 (0, 0)) := row_setCs _ _ X
 have tu4w := Nat.le_of_eq (setCs_size (g := w.heap.size) [.slice na xs.length nc] 0 u3w)
 have qu4w := Nat.le_of_eq (setCs_size (g := w.heap.size) [.slice na xs.length nc] 0 u3w).symm
 generalize (setCs u3w (w.heap.size) 0 [.slice na xs.length nc]) = u4w at B X R P tu4w qu4w ⊢
 refine (eachRows_nil _ _ _ _).mono ?_
 rintro e u5w ⟨vr, rfl, mm⟩
 obtain ⟨ra, rc, rfl⟩ := slown_val mm.1
 have Q := owned_made (R := rowsR) mm
 have mb := mm.2
 have tu5w : u4w.heap.size ≤ u5w.heap.size := mb.size
 replace B := below_step B mb
 replace X := row_keep mb X
 replace R := row_keep mb R
 replace P := owned_next P mb
 clear mb mm
 obtain ⟨Xc0, Xc1, Xc2, Xc3⟩ := cells_4 X
 have Xlt := (Array.getElem?_eq_some_iff.1 X).1
 obtain ⟨Xf0, Xf1, Xf2, Xf3⟩ := froz_4 X
 obtain ⟨Rc0, Rc1, Rc2, Rc3⟩ := cells_4 R
 have Rlt := (Array.getElem?_eq_some_iff.1 R).1
 obtain ⟨Rf0, Rf1, Rf2, Rf3⟩ := froz_4 R
 have HK : Hid _ := And.intro X (And.intro R (And.intro B (And.intro P Q)))
 clear X R B P Q
 go_wp2
 clear Xc0 Xc1 Xc2 Xc3 Xlt Xf0 Xf1 Xf2 Xf3 Rc0 Rc1 Rc2 Rc3 Rlt Rf0 Rf1 Rf2 Rf3
 obtain ⟨X, R, B, P, Q⟩ := HK.out
 have R2 : (u5w.setCell ⟨w.heap.size, 3, none⟩ (.slice ra 0 rc)).heap[w.heap.size + 1]? = some (.cells #[.slice none 0 0, .int .i64 0, .bool false, .slice none 0 0] 45 (0, 0)) := row_otherCs (g := w.heap.size) (o := 3) (vs := [.slice ra 0 rc]) R (by omega)
 obtain ⟨r0, r1, r2, r3⟩ := cells_4 (put_4 (y0 := .slice na xs.length nc) (y1 := .int .i64 0) (y2 := .bool false) (y3 := .slice ra 0 rc) R2)
 have OP := (owned_setCs (g := w.heap.size + 1) (o := 0) (vs := [.slice na xs.length nc, .int .i64 0, .bool false, .slice ra 0 rc]) (owned_setCs (g := w.heap.size) (o := 3) (vs := [.slice ra 0 rc]) P (by omega)) (by omega))
 have OQ := (owned_setCs (g := w.heap.size + 1) (o := 0) (vs := [.slice na xs.length nc, .int .i64 0, .bool false, .slice ra 0 rc]) (owned_setCs (g := w.heap.size) (o := 3) (vs := [.slice ra 0 rc]) Q (by omega)) (by omega))
 refine bodyPost_ret (v := .agg #[.slice na xs.length nc, .int .i64 0, .bool false, .slice ra 0 rc]) (by simp [results, Tryz.results137, go_sem, r0, r1, r2, r3]) rfl ⟨na, nc, ra, rc, rfl, own_dma (x := (xs, 0, false, [])) (show In64 0 by constructor <;> omega) OP.1 OQ.1 (rng_sub (by omega) OP.2) (rng_sub (by omega) OQ.2) (rng_dis (.inl (by omega))), below_setCs0 (g := w.heap.size + 1) (o := 0) (vs := [.slice na xs.length nc, .int .i64 0, .bool false, .slice ra 0 rc]) (below_setCs0 (g := w.heap.size) (o := 3) (vs := [.slice ra 0 rc]) B (by omega)) (by omega)⟩
theorem implNewDma_z (xs : List DescD) (pa : Option Addr) (pc : Nat) (w : World) (hk : descsB xs = true) (h : SlRd descR w pa xs) (hm : xs.length ≤ 1000) (hd : ∀ u ∈ xs, u.2.2.2.length ≤ 1048576) :
    Calls Tryz.prog 64 #[.slice pa xs.length pc] w fun e w' => ∃ na nc ra rc, e = .returned (.tuple #[.agg #[.slice na xs.length nc, .int .i64 0, .bool false, .slice ra 0 rc], .bool true]) ∧ MadeR dmaR w w' [.slice na xs.length nc, .int .i64 0, .bool false, .slice ra 0 rc] (xs, 0, false, []) := by
 have HO : Hid (∀ W, Below w.heap.size w W → Calls Tryz.prog 136 #[.slice pa xs.length pc] W fun e w' => e = .returned (.bool true) ∧ Below W.heap.size W w') := fun W hb => by
  have := implDescsOk_any pa xs pc W (slrd_next h hb) (by unfold maxLen; omega)
  rw [hk] at this
  exact this
 have HS : Hid (∀ W, Below w.heap.size w W → SlRd descR W pa xs) := fun W hb => slrd_next h hb
 have HD : Hid _ := hd
 clear h hd
 have B := Below.refl w.heap.size w
 go_enter Tryz.func64, Tryz.ntmps64
 go_wp2_with fail
 have R := heap_at w (.cells #[.slice none 0 0, .int .i64 0, .bool false, .slice none 0 0] 45)
 have bz := box_below w (.cells #[.slice none 0 0, .int .i64 0, .bool false, .slice none 0 0] 45)
 have zR := alloc_len w (.cells #[.slice none 0 0, .int .i64 0, .bool false, .slice none 0 0] 45)
 replace B := below_step B bz
 clear bz
 generalize w.alloc (.cells #[.slice none 0 0, .int .i64 0, .bool false, .slice none 0 0] 45) = u1w at B R zR ⊢
 have zRa := Nat.le_of_eq zR
 have zRb := Nat.le_of_eq zR.symm
 clear zR
 refine (HO.out _ B).mono ?_
 rintro e u2w ⟨rfl, bq⟩
 have tu2w : u1w.heap.size ≤ u2w.heap.size := bq.size
 replace B := below_step B bq
 replace R := row_keep bq R
 clear bq
 obtain ⟨Rc0, Rc1, Rc2, Rc3⟩ := cells_4 R
 have Rlt := (Array.getElem?_eq_some_iff.1 R).1
 go_wp2_with fail
 clear Rc0 Rc1 Rc2 Rc3 Rlt
 refine (dmaCopied_z xs pa pc _ (HS.out _ B) hm HD.out).mono ?_
 rintro e u3w ⟨na, nc, ra, rc, rfl, mm⟩
 have P := owned_made (R := dmaR) mm
 have mb := mm.2
 have tu3w : u2w.heap.size ≤ u3w.heap.size := mb.size
 replace B := below_step B mb
 replace R := row_keep mb R
 clear mb mm
 obtain ⟨Rc0, Rc1, Rc2, Rc3⟩ := cells_4 R
 have Rlt := (Array.getElem?_eq_some_iff.1 R).1
 obtain ⟨Rf0, Rf1, Rf2, Rf3⟩ := froz_4 R
 have HK : Hid _ := And.intro R (And.intro B P)
 clear R B P
 go_wp2
 clear Rc0 Rc1 Rc2 Rc3 Rlt Rf0 Rf1 Rf2 Rf3
 obtain ⟨R, B, P⟩ := HK.out
 obtain ⟨r0, r1, r2, r3⟩ := cells_4 (put_4 (y0 := .slice na xs.length nc) (y1 := .int .i64 0) (y2 := .bool false) (y3 := .slice ra 0 rc) R)
 have OP := (owned_setCs (g := w.heap.size) (o := 0) (vs := [.slice na xs.length nc, .int .i64 0, .bool false, .slice ra 0 rc]) P (by omega))
 refine bodyPost_ret (v := .tuple #[.agg #[.slice na xs.length nc, .int .i64 0, .bool false, .slice ra 0 rc], .bool true]) (by simp [results, Tryz.results64, go_sem, r0, r1, r2, r3]) rfl ⟨na, nc, ra, rc, rfl, dmaR.own_mono OP.1 (rng_sub (by omega) OP.2), below_setCs0 (g := w.heap.size) (o := 0) (vs := [.slice na xs.length nc, .int .i64 0, .bool false, .slice ra 0 rc]) B (by omega)⟩
end Go.Proofs.YthnfkacboijneaaGreatDoor
