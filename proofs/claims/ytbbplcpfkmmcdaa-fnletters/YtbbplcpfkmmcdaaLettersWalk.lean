/- The law FnLetters returns true at every code of at most 4096 bytes, and nothing that was there turns. -/
import Derived.Test.YtbbplcpfkmmcdaaDrawSent
import Derived.Test.YtbbplcpfkmmcdaaLikes
import Derived.Test.YtbbplcpfkmmcdaaImplTaken
import Derived.Test.YtbbplcpfkmmcdaaLetters
namespace Go.Proofs.Ytbbplcpfkmmcdaa
open Go.ChangeShapes Go.WideShapes Go.ChangeAt Go.RowKit
set_option linter.unusedVariables false

def FirstO (w : World) (e : Ending) (w' : World) : Prop :=
  ∃ xs au cu, ∃ k : Int, e = .returned (.tuple #[.slice au xs.length cu, .int .i64 k]) ∧ xs.length ≤ 61 ∧ (∀ v ∈ xs, v.2.2.2.2.2.1.length ≤ 3) ∧ msgsR.own w' (rng w.heap.size w'.heap.size) [.slice au xs.length cu] xs ∧ Below w.heap.size w w'
set_option maxRecDepth 8000 in
set_option maxHeartbeats 2000000 in
theorem drawFirstO_any (a : Option Addr) (len cap : Nat) (zs : List Int) (w : World) (hr : Row8 w a len zs) :
    Calls Try.prog 21 #[.slice a len cap] w fun e w' => FirstO w e w' := by
  go_enter Try.func21, Try.ntmps21
  go_wp2_with fail
  refine (l1New_any _ _ _ zs _ hr).mono ?_
  rintro e w1 ⟨rfl, hc1, hb1⟩
  have z1 := hb1.size
  have hcl := cur_lt hc1
  have HB : Hid _ := hb1
  generalize hgg : w.heap.size = gg at hc1 z1 hcl ⊢
  have hgg2 : w.heap.size ≤ gg := by omega
  have HG : Hid _ := hgg
  clear hb1 hr hgg
  go_wp2_with fail
  refine (l7Draw_any gg gg w1 hc1).mono ?_
  rintro e w2 ⟨xs, au, cu, hi, rfl, hx61, DN⟩
  have hc2 := DN.cur
  have HN : Hid _ := DN
  clear DN hc1
  go_wp2_with fail
  refine (l1From_small gg gg (-1) 10 w2 hc2 (by omega) (by omega) (by omega) (by omega)).mono ?_
  rintro e w3 ⟨k, rfl, k0, k1, hc3, g3⟩
  have N3 := dn_grown HN.out g3 hc3
  have HE : Hid _ := N3
  clear N3 g3 hc3 hc2 HN
  go_wp2
  go_ret2
  exact ⟨xs, au, cu, k, rfl, hx61, HE.out.dl, msgsR.own_mono HE.out.own (rng_sub (by omega) HE.out.top), HE.out.chg.below HB.out (fun j hj => by omega) (by have := HB.out.size; omega)⟩

theorem prod_splitL {α β : Type} {e : TypeId} {R : Rep α} {Q : Rep β} {w : World} {S : Foot} {v : Value} {cs : List Value} {a : List α} {b : β} (h : (prodR (slR e R) Q).own w S (v :: cs) (a, b)) : ∃ S1 S2, (slR e R).own w S1 [v] a ∧ Q.own w S2 cs b ∧ Sub S1 S ∧ Sub S2 S ∧ Dis S1 S2 := by
  obtain ⟨c1, c2, S1, S2, he, h1, h2, u1, u2, u3⟩ := h
  have hl := (slR e R).rd_len ((slR e R).own_rd h1)
  obtain ⟨v1, rfl⟩ : ∃ v, c1 = [v] := List.length_eq_one_iff.1 hl
  simp only [List.cons_append, List.nil_append, List.cons.injEq] at he
  obtain ⟨rfl, rfl⟩ := he
  exact ⟨S1, S2, h1, h2, u1, u2, u3⟩
theorem bkm (l : List MsgD) : msgsM.bk l = l.length + sumbk msgM l := rfl
theorem bkm_le {xs : List MsgD} (h : ∀ v ∈ xs, v.2.2.2.2.2.1.length ≤ 3) : msgsM.bk xs ≤ 4 * xs.length := by
  induction xs with
  | nil => exact Nat.le_refl _
  | cons x xs ih =>
    have h1 := ih (fun v hv => h v (by simp [hv]))
    have h2 := h x (by simp)
    have h3 := bk_msg x
    have h4 := bk_ints7 x.2.2.2.2.2.1
    rw [bkm] at h1 ⊢
    simp only [sumbk, List.map_cons, List.sum_cons, List.length_cons] at h1 ⊢
    omega
theorem taken_cases (ys : List MsgD) (k : Int) (hn : netB ys = true) : (takenI ys k).2.2 = false ∨ ∃ n t, takenI ys k = (ys.eraseIdx n, t, true) ∧ n < ys.length := by
  unfold takenI
  rw [if_pos hn]
  split
  · rename_i h2
    obtain ⟨hk0, x, hx, -⟩ : 0 ≤ k ∧ ∃ v, ys[k.toNat]? = some v ∧ NoneOf ys v k.toNat := by simpa [firstB] using h2
    exact .inr ⟨k.toNat, _, rfl, (List.getElem?_eq_some_iff.1 hx).1⟩
  · exact .inl rfl
/-- What holds between two rounds of the law's first loop. -/
structure LetI (w wr : World) (xs ys zs : List MsgD) (au an : Option Addr) (cu cn : Nat) (ao : Option Addr) (co base : Nat) : Prop where
  oa : msgsR.own wr (rng w.heap.size base) [.slice au xs.length cu] xs
  on : ∃ lo hi, msgsR.own wr (rng lo hi) [.slice an ys.length cn] ys ∧ hi ≤ wr.heap.size
  oo : msgsR.own wr (rng base wr.heap.size) [.slice ao zs.length co] zs
  ba : w.heap.size ≤ base
  bw : base ≤ wr.heap.size
  bl : Below w.heap.size w wr
theorem letI_below {w wr w' : World} {xs ys zs : List MsgD} {au an ao : Option Addr} {cu cn co base : Nat} (h : LetI w wr xs ys zs au an cu cn ao co base) (hb : Below wr.heap.size wr w') : LetI w w' xs ys zs au an cu cn ao co base :=
  ⟨msgsR.own_keep h.oa (keeps_below hb), by obtain ⟨lo, hi, h1, h2⟩ := h.on; exact ⟨lo, hi, msgsR.own_keep h1 (keeps_below hb), Nat.le_trans h2 hb.size⟩, msgsR.own_mono (msgsR.own_keep h.oo (keeps_below hb)) (rng_sub (Nat.le_refl _) hb.size), h.ba, Nat.le_trans h.bw hb.size, below_step h.bl hb⟩

set_option maxRecDepth 100000 in
set_option maxHeartbeats 8000000 in
theorem letters_law (a : Option Addr) (len cap : Nat) (bs : List Int) (w : World) (hr : Row8 w a len bs) (hs : len ≤ 4096) :
    Calls Try.prog 4 #[.slice a len cap] w fun e w' => e = .returned (.bool true) ∧ Below w.heap.size w w' := by
  have hbig : decide ((4096 : Int) < len) = false := by simp; omega
  obtain ⟨ti, hi, hz0, hz1, hz2⟩ := info_parts Try.infoMsg
  go_enter Try.func4, Try.ntmps4
  go_wp2_with fail
  refine (big_any _ _ _ _).mono ?_
  rintro e w0 ⟨rfl, hw⟩
  rw [hw]
  clear hw w0
  rw [hbig]
  clear hbig
  go_wp2_with fail
  refine (drawFirstO_any _ _ _ bs _ hr).mono ?_
  rintro e w1 ⟨xs, au, cu, k, rfl, hx61, hxd, OA, b1⟩
  have HXD : Hid _ := hxd
  have hxm : xs.length ≤ maxLen := by unfold maxLen; omega
  have RA := msgs_rd OA
  have HR : Hid (∀ W, Below w.heap.size w W → Row8 W a len bs) := fun W hb => row8_below hr hb
  have HOA : Hid _ := And.intro OA b1
  clear hxd OA hr
  go_wp2_with fail
  refine (implFirst_any au xs cu k _ RA hxm).mono ?_
  rintro e w2 ⟨rfl, b2⟩
  replace RA := slrd_next RA b2
  replace b1 := below_step b1 b2
  have BB := b2
  clear b2
  go_wp2_with fail
  refine (specFirst_any au xs cu k _ RA hxm).mono ?_
  rintro e w3 ⟨rfl, b2⟩
  replace RA := slrd_next RA b2
  replace b1 := below_step b1 b2
  replace BB := below_step BB b2
  clear b2
  generalize hfq : (netB xs && firstB xs k) = fq
  have HF : Hid ((netB xs && firstB xs k) = fq) := hfq
  clear hfq
  go_wp2_with fail
  refine (specNetOk_any au xs cu _ RA hxm).mono ?_
  rintro e w4 ⟨rfl, b2⟩
  replace RA := slrd_next RA b2
  replace b1 := below_step b1 b2
  replace BB := below_step BB b2
  clear b2
  cases hn : netB xs
  · have hf0 : fq = false := by rw [← HF.out, hn]; rfl
    have CF := implFirst_any au xs cu k w4 RA hxm
    rw [HF.out, hf0] at CF
    rw [hf0]
    clear HF hf0 hn
    go_wp2_with fail
    refine CF.mono ?_
    rintro e w5 ⟨rfl, b2⟩
    replace b1 := below_step b1 b2
    clear b2 RA CF
    go_wp2
    go_ret
    exact ⟨rfl, b1⟩
  · have hl60 : xs.length ≤ 60 := (net_small hn).1
    have I0 : LetI w (w4.alloc (.cells #[] 27)) xs xs [] au au cu cu (some ⟨w4.heap.size, 0, none⟩) 0 w4.heap.size := by
      have M := made_none (e := 27) (R := msgR) w4
      have o4 := msgsR.own_keep HOA.out.1 (keeps_below (below_step BB M.2))
      have s4 := BB.size
      have s1 := b1.size
      refine ⟨msgsR.own_mono o4 (rng_sub (Nat.le_refl _) s4), ⟨_, _, o4, by have := M.2.size; omega⟩, M.1, s1, by simp, below_step b1 M.2⟩
    have HI0 : Hid _ := I0
    generalize hbase : w4.heap.size = base at HI0
    have HBS : Hid _ := hbase
    clear I0 RA b1 BB HOA HF hbase
    go_wp2
    generalize w4.alloc (.cells #[] 27) = W4 at HI0 ⊢
    go_loopw [3, 6, 7] (fun n o i wr => ∃ (j : Nat) (ys zs : List MsgD) (an ao : Option Addr) (cn co : Nat), i = .int .i64 j ∧ n = .slice an ys.length cn ∧ o = .slice ao zs.length co ∧ j + ys.length = xs.length ∧ zs.length = j ∧ netB ys = true ∧ (∀ v ∈ ys, v ∈ xs) ∧ (∀ v, ofR zs v ++ ofR ys v = ofR xs v) ∧ LetI w wr xs ys zs au an cu cn ao co base) (fun n _ _ _ => slLen n)
    case atStart => exact ⟨0, xs, [], au, _, cu, _, rfl, rfl, by rw [← HBS.out]; rfl, by omega, rfl, hn, fun v hv => hv, fun v => by simp [ofR], HI0.out⟩
    case round =>
      clear HI0
      obtain ⟨j, ys, zs, an, ao, cn, co, rfl, rfl, rfl, hjl, hzj, hny, hsub, hof, I⟩ := hrel
      have HQ : Hid _ := And.intro hjl (And.intro hzj (And.intro hny (And.intro hsub hof)))
      have hj60 : j ≤ 60 := by omega
      have hzl : zs.length ≤ 60 := by omega
      have hyl : ys.length ≤ 60 := by omega
      clear hjl hzj hsub hof
      by_cases hpos : 0 < ys.length
      · have hpos' : (0 : Int) < (ys.length : Int) := by omega
        have hj80 : (j : Int) < 80 := by omega
        obtain ⟨lo, hh, ON0, hhi⟩ := I.on
        have RN := msgs_rd ON0
        have CP := pick_any a len cap bs (j : Int) (ys.length : Int) wr (HR.out _ I.bl) hpos'
        have HI : Hid _ := I
        have hym : ys.length ≤ maxLen := by unfold maxLen; omega
        have hba := I.ba
        have hbw := I.bw
        clear I ON0 hhi
        go_wp2_with fail
        refine CP.mono ?_
        rintro e w5 ⟨⟨kk, rfl⟩, hw⟩
        rw [hw]
        clear hw w5 CP
        have CT := implTaken_any an ys cn kk wr RN hym
        have CT0 := fun W (hb : Below wr.heap.size wr W) => implTaken_any an ys cn 0 W (slrd_next RN hb) hym
        have htc := taken_cases ys kk hny
        generalize hti : takenI ys kk = TI at CT htc
        have HTI : Hid (takenI ys kk = TI) := hti
        clear hti
        obtain ⟨c2, t, took⟩ := TI
        simp only at CT htc
        go_wp2_with fail
        refine CT.mono ?_
        rintro e w6 ⟨ay, cy, bt, dt, rfl, mm⟩
        have z6 := mm.2.size
        have HMM : Hid _ := mm
        have X6 := heap_at w6 (.cells #[.int .i64 t.1, .int .i64 t.2.1, .int .i64 t.2.2.1, .int .i64 t.2.2.2.1, .int .i64 t.2.2.2.2.1, .slice bt t.2.2.2.2.2.1.length dt, .int .i64 t.2.2.2.2.2.2] 27)
        have B6 := box_below w6 (.cells #[.int .i64 t.1, .int .i64 t.2.1, .int .i64 t.2.2.1, .int .i64 t.2.2.2.1, .int .i64 t.2.2.2.2.1, .slice bt t.2.2.2.2.2.1.length dt, .int .i64 t.2.2.2.2.2.2] 27)
        clear CT mm
        cases took
        · clear htc HTI
          obtain ⟨t9, ht9⟩ := taken_first hny hpos
          obtain ⟨c9, hc9⟩ : ∃ c, c = ys.eraseIdx 0 := ⟨_, rfl⟩
          rw [← hc9] at ht9
          have HC9 : Hid (c9 = ys.eraseIdx 0) := hc9
          clear hc9
          have CT9 := CT0 (w6.alloc (.cells #[.int .i64 t.1, .int .i64 t.2.1, .int .i64 t.2.2.1, .int .i64 t.2.2.2.1, .int .i64 t.2.2.2.2.1, .slice bt t.2.2.2.2.2.1.length dt, .int .i64 t.2.2.2.2.2.2] 27)) (below_step HMM.out.2 B6)
          rw [ht9] at CT9
          simp only at CT9
          have X7 := X6
          have HB6 : Hid _ := below_step HMM.out.2 B6
          clear CT0
          go_wp2_with fail
          generalize w6.alloc (.cells #[.int .i64 t.1, .int .i64 t.2.1, .int .i64 t.2.2.1, .int .i64 t.2.2.2.1, .int .i64 t.2.2.2.2.1, .slice bt t.2.2.2.2.2.1.length dt, .int .i64 t.2.2.2.2.2.2] 27) = W6 at CT9 X7 HB6 ⊢
          have hmb : wr.heap.size ≤ w6.heap.size := z6
          generalize hmbe : w6.heap.size = mb at X7 hmb ⊢
          have hmlt := (Array.getElem?_eq_some_iff.1 X7).1
          refine CT9.mono ?_
          rintro e w7 ⟨ay, cy, b9, d9, rfl, mm⟩
          have X8 := row_keep mm.2 X7
          obtain ⟨m0, m1, m2, m3, m4, m5, m6⟩ := cells_7 X8
          obtain ⟨s0, s1, s2, s3, s4, s5, s6⟩ := froz_7 X8
          have HM9 : Hid _ := And.intro mm (And.intro X8 ht9)
          have z7 := mm.2.size
          clear mm X8 CT9 X7 ht9 X6 B6 HMM hmbe
          have hm1 : mb < w7.heap.size := by omega
          have hlo : wr.heap.size ≤ W6.heap.size := HB6.out.size
          have HB : Hid ((((((((w7.setCell ⟨mb, 0, none⟩ (.int .i64 t9.1)).setCell ⟨mb, 1, none⟩ (.int .i64 t9.2.1)).setCell ⟨mb, 2, none⟩ (.int .i64 t9.2.2.1)).setCell ⟨mb, 3, none⟩ (.int .i64 t9.2.2.2.1)).setCell ⟨mb, 4, none⟩ (.int .i64 t9.2.2.2.2.1)).setCell ⟨mb, 5, none⟩ (.slice b9 t9.2.2.2.2.2.1.length d9)).setCell ⟨mb, 6, none⟩ (.int .i64 t9.2.2.2.2.2.2)).heap[mb]? = some (.cells #[.int .i64 t9.1, .int .i64 t9.2.1, .int .i64 t9.2.2.1, .int .i64 t9.2.2.2.1, .int .i64 t9.2.2.2.2.1, .slice b9 t9.2.2.2.2.2.1.length d9, .int .i64 t9.2.2.2.2.2.2] 27) ∧ msgR.own (((((((w7.setCell ⟨mb, 0, none⟩ (.int .i64 t9.1)).setCell ⟨mb, 1, none⟩ (.int .i64 t9.2.1)).setCell ⟨mb, 2, none⟩ (.int .i64 t9.2.2.1)).setCell ⟨mb, 3, none⟩ (.int .i64 t9.2.2.2.1)).setCell ⟨mb, 4, none⟩ (.int .i64 t9.2.2.2.2.1)).setCell ⟨mb, 5, none⟩ (.slice b9 t9.2.2.2.2.2.1.length d9)).setCell ⟨mb, 6, none⟩ (.int .i64 t9.2.2.2.2.2.2)) (rng W6.heap.size w7.heap.size) [.int .i64 t9.1, .int .i64 t9.2.1, .int .i64 t9.2.2.1, .int .i64 t9.2.2.2.1, .int .i64 t9.2.2.2.2.1, .slice b9 t9.2.2.2.2.2.1.length d9, .int .i64 t9.2.2.2.2.2.2] t9 ∧ msgsR.own (((((((w7.setCell ⟨mb, 0, none⟩ (.int .i64 t9.1)).setCell ⟨mb, 1, none⟩ (.int .i64 t9.2.1)).setCell ⟨mb, 2, none⟩ (.int .i64 t9.2.2.1)).setCell ⟨mb, 3, none⟩ (.int .i64 t9.2.2.2.1)).setCell ⟨mb, 4, none⟩ (.int .i64 t9.2.2.2.2.1)).setCell ⟨mb, 5, none⟩ (.slice b9 t9.2.2.2.2.2.1.length d9)).setCell ⟨mb, 6, none⟩ (.int .i64 t9.2.2.2.2.2.2)) (rng base wr.heap.size) [.slice ao zs.length co] zs ∧ msgsR.own (((((((w7.setCell ⟨mb, 0, none⟩ (.int .i64 t9.1)).setCell ⟨mb, 1, none⟩ (.int .i64 t9.2.1)).setCell ⟨mb, 2, none⟩ (.int .i64 t9.2.2.1)).setCell ⟨mb, 3, none⟩ (.int .i64 t9.2.2.2.1)).setCell ⟨mb, 4, none⟩ (.int .i64 t9.2.2.2.2.1)).setCell ⟨mb, 5, none⟩ (.slice b9 t9.2.2.2.2.2.1.length d9)).setCell ⟨mb, 6, none⟩ (.int .i64 t9.2.2.2.2.2.2)) (rng W6.heap.size w7.heap.size) [.slice ay c9.length cy] c9 ∧ msgsR.own (((((((w7.setCell ⟨mb, 0, none⟩ (.int .i64 t9.1)).setCell ⟨mb, 1, none⟩ (.int .i64 t9.2.1)).setCell ⟨mb, 2, none⟩ (.int .i64 t9.2.2.1)).setCell ⟨mb, 3, none⟩ (.int .i64 t9.2.2.2.1)).setCell ⟨mb, 4, none⟩ (.int .i64 t9.2.2.2.2.1)).setCell ⟨mb, 5, none⟩ (.slice b9 t9.2.2.2.2.2.1.length d9)).setCell ⟨mb, 6, none⟩ (.int .i64 t9.2.2.2.2.2.2)) (rng w.heap.size base) [.slice au xs.length cu] xs ∧ Below w.heap.size w (((((((w7.setCell ⟨mb, 0, none⟩ (.int .i64 t9.1)).setCell ⟨mb, 1, none⟩ (.int .i64 t9.2.1)).setCell ⟨mb, 2, none⟩ (.int .i64 t9.2.2.1)).setCell ⟨mb, 3, none⟩ (.int .i64 t9.2.2.2.1)).setCell ⟨mb, 4, none⟩ (.int .i64 t9.2.2.2.2.1)).setCell ⟨mb, 5, none⟩ (.slice b9 t9.2.2.2.2.2.1.length d9)).setCell ⟨mb, 6, none⟩ (.int .i64 t9.2.2.2.2.2.2))) := by
            obtain ⟨mm, X8, ht9⟩ := HM9.out
            obtain ⟨S1, S2, mo1, mo2, u1, u2, -⟩ := prod_splitL mm.1
            have c7 := put7_chg (w := w7) (g := mb) (v0 := .int .i64 t9.1) (v1 := .int .i64 t9.2.1) (v2 := .int .i64 t9.2.2.1) (v3 := .int .i64 t9.2.2.2.1) (v4 := .int .i64 t9.2.2.2.2.1) (v5 := .slice b9 t9.2.2.2.2.2.1.length d9) (v6 := .int .i64 t9.2.2.2.2.2.2)
            have bb := below_step HB6.out mm.2
            refine ⟨put_7 (y0 := .int .i64 t9.1) (y1 := .int .i64 t9.2.1) (y2 := .int .i64 t9.2.2.1) (y3 := .int .i64 t9.2.2.2.1) (y4 := .int .i64 t9.2.2.2.2.1) (y5 := .slice b9 t9.2.2.2.2.2.1.length d9) (y6 := .int .i64 t9.2.2.2.2.2.2) X8, own_chg (msgR.own_mono mo2 u2) c7 (fun k h1 h2 => by have := h1.1; omega), own_chg (msgsR.own_keep HI.out.oo (keeps_below bb)) c7 (fun k h1 h2 => by have := h1.2; omega), own_chg (msgsR.own_mono mo1 u1) c7 (fun k h1 h2 => by have := h1.1; omega), own_chg (msgsR.own_keep HI.out.oa (keeps_below bb)) c7 (fun k h1 h2 => by have := h1.2; omega), c7.below (below_step HI.out.bl bb) (fun k hk => by omega) (by have := HI.out.bl.size; omega)⟩
          have e9 : (((((((w7.setCell ⟨mb, 0, none⟩ (.int .i64 t9.1)).setCell ⟨mb, 1, none⟩ (.int .i64 t9.2.1)).setCell ⟨mb, 2, none⟩ (.int .i64 t9.2.2.1)).setCell ⟨mb, 3, none⟩ (.int .i64 t9.2.2.2.1)).setCell ⟨mb, 4, none⟩ (.int .i64 t9.2.2.2.2.1)).setCell ⟨mb, 5, none⟩ (.slice b9 t9.2.2.2.2.2.1.length d9)).setCell ⟨mb, 6, none⟩ (.int .i64 t9.2.2.2.2.2.2)).heap.size ≥ w7.heap.size := (put7_chg (w := w7) (g := mb) (v0 := .int .i64 t9.1) (v1 := .int .i64 t9.2.1) (v2 := .int .i64 t9.2.2.1) (v3 := .int .i64 t9.2.2.2.1) (v4 := .int .i64 t9.2.2.2.2.1) (v5 := .slice b9 t9.2.2.2.2.2.1.length d9) (v6 := .int .i64 t9.2.2.2.2.2.2)).size
          clear HB6 RN HI
          go_upto_region 17 with fail
          generalize (((((((w7.setCell ⟨mb, 0, none⟩ (.int .i64 t9.1)).setCell ⟨mb, 1, none⟩ (.int .i64 t9.2.1)).setCell ⟨mb, 2, none⟩ (.int .i64 t9.2.2.1)).setCell ⟨mb, 3, none⟩ (.int .i64 t9.2.2.2.1)).setCell ⟨mb, 4, none⟩ (.int .i64 t9.2.2.2.2.1)).setCell ⟨mb, 5, none⟩ (.slice b9 t9.2.2.2.2.2.1.length d9)).setCell ⟨mb, 6, none⟩ (.int .i64 t9.2.2.2.2.2.2)) = W7 at HB e9 ⊢
          clear m0 m1 m2 m3 m4 m5 m6 s0 s1 s2 s3 s4 s5 s6
          obtain ⟨XB, OT, OO, ON, OA, BB⟩ := HB.out
          obtain ⟨m0, m1, m2, m3, m4, m5, m6⟩ := cells_7 XB
          obtain ⟨rows0, hr0, hrl⟩ := slown_row OO
          replace hr0 := row_base (base' := base) hr0 (fun g hg => (World.ownsRow.lt hr0 g hg).1)
          have hrA : (W7.alloc (.cells #[.int .i64 t9.1, .int .i64 t9.2.1, .int .i64 t9.2.2.1, .int .i64 t9.2.2.2.1, .int .i64 t9.2.2.2.2.1, .slice b9 t9.2.2.2.2.2.1.length d9, .int .i64 t9.2.2.2.2.2.2] 27)).ownsRow base 27 7 (.slice ao zs.length co) zs.length rows0 := orow_keep hr0 fun g hg => by
            have hl := World.ownsRow.lt hr0 g hg
            rw [Below.heap_alloc _ _ _ hl.2]
          have hbs : base ≤ (W7.alloc (.cells #[.int .i64 t9.1, .int .i64 t9.2.1, .int .i64 t9.2.2.1, .int .i64 t9.2.2.2.1, .int .i64 t9.2.2.2.2.1, .slice b9 t9.2.2.2.2.2.1.length d9, .int .i64 t9.2.2.2.2.2.2] 27)).heap.size := by simp; omega
          have HR0 : Hid _ := hr0
          clear XB OT OO ON OA BB hr0 hrl
          go_wp2_with (at_builtin; refine wpList_append_own _ rfl _ _ 24 rfl base 27 ti (.agg #[.int .i64 0, .int .i64 0, .int .i64 0, .int .i64 0, .int .i64 0, .slice none 0 0, .int .i64 0]) 7 72 Try.underlying24 hi hz0 hz1 hz2 rfl (by decide) _ _ _ rfl hrA ⟨W7.heap.size, 0, none⟩ 1 1 [.int .i64 t9.1, .int .i64 t9.2.1, .int .i64 t9.2.2.1, .int .i64 t9.2.2.2.1, .int .i64 t9.2.2.2.2.1, .slice b9 t9.2.2.2.2.2.1.length d9, .int .i64 t9.2.2.2.2.2.2] rfl rfl ?c1 ?c2 ?c3 ?c4 ?c5 ?_)
          case c1 => exact cells_news W7 _ _
          case c2 => exact one_7 _ _ _ _ _ _ _ _ _
          case c3 => unfold maxLen; omega
          case c4 => omega
          case c5 => exact hbs
          intro v' w9 hown' hgrow hnil
          obtain ⟨g', cap', rfl⟩ := owns_shape hown'
          obtain ⟨XB, OT, OO, ON, OA, BB⟩ := HB.out
          obtain ⟨N1, N2⟩ := appR_sep (base := base) (e := 27) (R := msgR) (by decide) OO OT (rng_dis (.inl hlo)) (fun k hk => hk.1) (fun k hk => Nat.le_trans (Nat.le_trans hbw hlo) hk.1) (fun rows hr => by rw [rows_unique hr HR0.out]; exact hown') hgrow
          have z9 := N2.size
          have NI : Hid (LetI w w9 xs c9 (zs ++ [t9]) au ay cu cy (some ⟨g', 0, none⟩) cap' base) := by
            refine ⟨own_chg OA N2 (fun k h1 h2 => ?_), ⟨_, _, own_chg ON N2 (fun k h1 h2 => ?_), by omega⟩, by rw [List.length_append]; exact N1, hba, by omega, N2.below BB (fun k hk => ?_) (by have := BB.size; omega)⟩
            · have := h1.2
              have := h2.1.1
              omega
            · have := h1.1
              have := h2.1.2
              omega
            · have := hk.1.1
              omega
          clear XB OT OO ON OA BB N1 N2 hown' hgrow hnil hrA hbs HR0 HB m0 m1 m2 m3 m4 m5 m6
          go_wp2
          go_roundw
          case rel =>
            obtain ⟨hjl, hzj, hny', hsub, hof⟩ := HQ.out
            have hce := HC9.out
            have hlc : c9.length + 1 = ys.length := by rw [hce, List.length_eraseIdx, if_pos hpos]; omega
            refine ⟨j + 1, c9, zs ++ [t9], ay, _, cy, _, by go_num, rfl, by rw [List.length_append]; rfl, by omega, by rw [List.length_append]; show zs.length + 1 = j + 1; omega, by rw [hce]; exact netB_erase hny', fun v hv => hsub v (List.mem_of_mem_eraseIdx (by rw [← hce]; exact hv)), ofR_step hof HM9.out.2.2, NI.out⟩
          case measure =>
            have hce := HC9.out
            have hlc : c9.length + 1 = ys.length := by rw [hce, List.length_eraseIdx, if_pos hpos]; omega
            simp [slLen]
            omega
        · clear CT0
          obtain ⟨n, t', hte, hnl⟩ : ∃ n t', takenI ys kk = (ys.eraseIdx n, t', true) ∧ n < ys.length := by
            rcases htc with h | ⟨n, t', h1, h2⟩
            · cases h
            · exact ⟨n, t', by rw [HTI.out]; exact h1, h2⟩
          have hce : c2 = ys.eraseIdx n := by have := HTI.out.symm.trans hte; simp only [Prod.mk.injEq] at this; exact this.1
          have HST : Hid (c2 = ys.eraseIdx n ∧ n < ys.length) := ⟨hce, hnl⟩
          clear htc hte hce
          obtain ⟨S1, S2, mo1, mo2, u1, u2, -⟩ := prod_splitL HMM.out.1
          have HB : Hid ((w6.alloc (.cells #[.int .i64 t.1, .int .i64 t.2.1, .int .i64 t.2.2.1, .int .i64 t.2.2.2.1, .int .i64 t.2.2.2.2.1, .slice bt t.2.2.2.2.2.1.length dt, .int .i64 t.2.2.2.2.2.2] 27)).heap[w6.heap.size]? = some (.cells #[.int .i64 t.1, .int .i64 t.2.1, .int .i64 t.2.2.1, .int .i64 t.2.2.2.1, .int .i64 t.2.2.2.2.1, .slice bt t.2.2.2.2.2.1.length dt, .int .i64 t.2.2.2.2.2.2] 27) ∧ msgR.own (w6.alloc (.cells #[.int .i64 t.1, .int .i64 t.2.1, .int .i64 t.2.2.1, .int .i64 t.2.2.2.1, .int .i64 t.2.2.2.2.1, .slice bt t.2.2.2.2.2.1.length dt, .int .i64 t.2.2.2.2.2.2] 27)) (rng wr.heap.size w6.heap.size) [.int .i64 t.1, .int .i64 t.2.1, .int .i64 t.2.2.1, .int .i64 t.2.2.2.1, .int .i64 t.2.2.2.2.1, .slice bt t.2.2.2.2.2.1.length dt, .int .i64 t.2.2.2.2.2.2] t ∧ msgsR.own (w6.alloc (.cells #[.int .i64 t.1, .int .i64 t.2.1, .int .i64 t.2.2.1, .int .i64 t.2.2.2.1, .int .i64 t.2.2.2.2.1, .slice bt t.2.2.2.2.2.1.length dt, .int .i64 t.2.2.2.2.2.2] 27)) (rng base wr.heap.size) [.slice ao zs.length co] zs ∧ msgsR.own (w6.alloc (.cells #[.int .i64 t.1, .int .i64 t.2.1, .int .i64 t.2.2.1, .int .i64 t.2.2.2.1, .int .i64 t.2.2.2.2.1, .slice bt t.2.2.2.2.2.1.length dt, .int .i64 t.2.2.2.2.2.2] 27)) (rng wr.heap.size w6.heap.size) [.slice ay c2.length cy] c2 ∧ msgsR.own (w6.alloc (.cells #[.int .i64 t.1, .int .i64 t.2.1, .int .i64 t.2.2.1, .int .i64 t.2.2.2.1, .int .i64 t.2.2.2.2.1, .slice bt t.2.2.2.2.2.1.length dt, .int .i64 t.2.2.2.2.2.2] 27)) (rng w.heap.size base) [.slice au xs.length cu] xs ∧ Below w.heap.size w (w6.alloc (.cells #[.int .i64 t.1, .int .i64 t.2.1, .int .i64 t.2.2.1, .int .i64 t.2.2.2.1, .int .i64 t.2.2.2.2.1, .slice bt t.2.2.2.2.2.1.length dt, .int .i64 t.2.2.2.2.2.2] 27))) := by
            have bb := below_step HMM.out.2 B6
            exact ⟨X6, own_box _ (msgR.own_mono mo2 u2), msgsR.own_keep HI.out.oo (keeps_below bb), own_box _ (msgsR.own_mono mo1 u1), msgsR.own_keep HI.out.oa (keeps_below bb), below_step HI.out.bl bb⟩
          have e7 : (w6.alloc (.cells #[.int .i64 t.1, .int .i64 t.2.1, .int .i64 t.2.2.1, .int .i64 t.2.2.2.1, .int .i64 t.2.2.2.2.1, .slice bt t.2.2.2.2.2.1.length dt, .int .i64 t.2.2.2.2.2.2] 27)).heap.size ≥ w6.heap.size + 1 := by simp
          clear mo1 mo2 u1 u2 HMM X6 B6 RN HI hnl
          go_upto_region 17 with fail
          generalize w6.alloc (.cells #[.int .i64 t.1, .int .i64 t.2.1, .int .i64 t.2.2.1, .int .i64 t.2.2.2.1, .int .i64 t.2.2.2.2.1, .slice bt t.2.2.2.2.2.1.length dt, .int .i64 t.2.2.2.2.2.2] 27) = W7 at HB e7 ⊢
          generalize hmbe : w6.heap.size = mb at HB e7 z6 ⊢
          clear hmbe
          have hlo : wr.heap.size ≤ wr.heap.size := Nat.le_refl _
          obtain ⟨XB, OT, OO, ON, OA, BB⟩ := HB.out
          obtain ⟨m0, m1, m2, m3, m4, m5, m6⟩ := cells_7 XB
          obtain ⟨rows0, hr0, hrl⟩ := slown_row OO
          replace hr0 := row_base (base' := base) hr0 (fun g hg => (World.ownsRow.lt hr0 g hg).1)
          have hrA : (W7.alloc (.cells #[.int .i64 t.1, .int .i64 t.2.1, .int .i64 t.2.2.1, .int .i64 t.2.2.2.1, .int .i64 t.2.2.2.2.1, .slice bt t.2.2.2.2.2.1.length dt, .int .i64 t.2.2.2.2.2.2] 27)).ownsRow base 27 7 (.slice ao zs.length co) zs.length rows0 := orow_keep hr0 fun g hg => by
            have hl := World.ownsRow.lt hr0 g hg
            rw [Below.heap_alloc _ _ _ hl.2]
          have hbs : base ≤ (W7.alloc (.cells #[.int .i64 t.1, .int .i64 t.2.1, .int .i64 t.2.2.1, .int .i64 t.2.2.2.1, .int .i64 t.2.2.2.2.1, .slice bt t.2.2.2.2.2.1.length dt, .int .i64 t.2.2.2.2.2.2] 27)).heap.size := by simp; omega
          have HR0 : Hid _ := hr0
          clear XB OT OO ON OA BB hr0 hrl
          go_wp2_with (at_builtin; refine wpList_append_own _ rfl _ _ 24 rfl base 27 ti (.agg #[.int .i64 0, .int .i64 0, .int .i64 0, .int .i64 0, .int .i64 0, .slice none 0 0, .int .i64 0]) 7 72 Try.underlying24 hi hz0 hz1 hz2 rfl (by decide) _ _ _ rfl hrA ⟨W7.heap.size, 0, none⟩ 1 1 [.int .i64 t.1, .int .i64 t.2.1, .int .i64 t.2.2.1, .int .i64 t.2.2.2.1, .int .i64 t.2.2.2.2.1, .slice bt t.2.2.2.2.2.1.length dt, .int .i64 t.2.2.2.2.2.2] rfl rfl ?c1 ?c2 ?c3 ?c4 ?c5 ?_)
          case c1 => exact cells_news W7 _ _
          case c2 => exact one_7 _ _ _ _ _ _ _ _ _
          case c3 => unfold maxLen; omega
          case c4 => omega
          case c5 => exact hbs
          intro v' w9 hown' hgrow hnil
          obtain ⟨g', cap', rfl⟩ := owns_shape hown'
          obtain ⟨XB, OT, OO, ON, OA, BB⟩ := HB.out
          obtain ⟨N1, N2⟩ := appR_sep (base := base) (e := 27) (R := msgR) (by decide) OO OT (rng_dis (.inl hlo)) (fun k hk => hk.1) (fun k hk => Nat.le_trans (Nat.le_trans hbw hlo) hk.1) (fun rows hr => by rw [rows_unique hr HR0.out]; exact hown') hgrow
          have z9 := N2.size
          have NI : Hid (LetI w w9 xs c2 (zs ++ [t]) au ay cu cy (some ⟨g', 0, none⟩) cap' base) := by
            refine ⟨own_chg OA N2 (fun k h1 h2 => ?_), ⟨_, _, own_chg ON N2 (fun k h1 h2 => ?_), by omega⟩, by rw [List.length_append]; exact N1, hba, by omega, N2.below BB (fun k hk => ?_) (by have := BB.size; omega)⟩
            · have := h1.2
              have := h2.1.1
              omega
            · have := h1.1
              have := h2.1.2
              omega
            · have := hk.1.1
              omega
          clear XB OT OO ON OA BB N1 N2 hown' hgrow hnil hrA hbs HR0 HB m0 m1 m2 m3 m4 m5 m6
          go_wp2
          go_roundw
          case rel =>
            obtain ⟨hjl, hzj, hny', hsub, hof⟩ := HQ.out
            obtain ⟨hce, hnl⟩ := HST.out
            have hlc : c2.length + 1 = ys.length := by rw [hce, List.length_eraseIdx, if_pos hnl]; omega
            refine ⟨j + 1, c2, zs ++ [t], ay, _, cy, _, by go_num, rfl, by rw [List.length_append]; rfl, by omega, by rw [List.length_append]; show zs.length + 1 = j + 1; omega, by rw [hce]; exact netB_erase hny', fun v hv => hsub v (List.mem_of_mem_eraseIdx (by rw [← hce]; exact hv)), ofR_step hof HTI.out, NI.out⟩
          case measure =>
            obtain ⟨hce, hnl⟩ := HST.out
            have hlc : c2.length + 1 = ys.length := by rw [hce, List.length_eraseIdx, if_pos hnl]; omega
            simp [slLen]
            omega
      · have hy0 : ys = [] := List.eq_nil_of_length_eq_zero (by omega)
        obtain ⟨hjl, hzj, -, -, hof⟩ := HQ.out
        have hj60' : j = xs.length := by rw [hy0] at hjl; simpa using hjl
        have hzx : zs.length = xs.length := by omega
        have hofx : ∀ v, ofR zs v = ofR xs v := fun v => by have := hof v; rw [hy0] at this; simpa [ofR] using this
        have hnp : ¬ (0 : Int) < (ys.length : Int) := by omega
        clear hy0
        have HO : Hid _ := And.intro hzx hofx
        have HI : Hid _ := I
        have hj80 : (j : Int) < 80 := by omega
        clear hjl hzj hof hzx hofx HQ hny hj60' I
        go_wp2
        go_loopw [12, 13] (fun i _ wr => ∃ q : Nat, q ≤ xs.length ∧ i = .int .i64 q ∧ LetI w wr xs ys zs au an cu cn ao co base) (fun i _ _ => xs.length - (intOf i).toNat)
        case atStart => exact ⟨0, Nat.zero_le _, rfl, HI.out⟩
        case round =>
          clear HI
          obtain ⟨q, hq, rfl, I⟩ := hrel
          by_cases hlt : q < xs.length
          · have hlt' : (q : Int) < (xs.length : Int) := by omega
            obtain ⟨x, hx⟩ : ∃ x, xs[q]? = some x := ⟨_, List.getElem?_eq_getElem hlt⟩
            have RA := msgs_rd I.oa
            have RO := msgs_rd I.oo
            obtain ⟨b, off, cs, rfl, hrd, hcell⟩ := slrd_at RA hx
            obtain ⟨ad, cpw, rfl, -⟩ := msg_rd hrd
            have x0 := hcell 0 _ rfl
            rw [show off + (q * msgR.size + 0) = off + q * 7 from rfl] at x0
            have x1 := hcell 1 _ rfl
            rw [show off + (q * msgR.size + 1) = off + q * 7 + 1 from rfl] at x1
            have x2 := hcell 2 _ rfl
            rw [show off + (q * msgR.size + 2) = off + q * 7 + 2 from rfl] at x2
            have x3 := hcell 3 _ rfl
            rw [show off + (q * msgR.size + 3) = off + q * 7 + 3 from rfl] at x3
            have x4 := hcell 4 _ rfl
            rw [show off + (q * msgR.size + 4) = off + q * 7 + 4 from rfl] at x4
            have x5 := hcell 5 _ rfl
            rw [show off + (q * msgR.size + 5) = off + q * 7 + 5 from rfl] at x5
            have x6 := hcell 6 _ rfl
            rw [show off + (q * msgR.size + 6) = off + q * 7 + 6 from rfl] at x6
            have KC : Hid (∀ W, Below wr.heap.size wr W → W.cell? ⟨b, off + q * 7, none⟩ = some (.int .i64 x.1) ∧ W.cell? ⟨b, off + q * 7 + 1, none⟩ = some (.int .i64 x.2.1) ∧ W.cell? ⟨b, off + q * 7 + 2, none⟩ = some (.int .i64 x.2.2.1) ∧ W.cell? ⟨b, off + q * 7 + 3, none⟩ = some (.int .i64 x.2.2.2.1) ∧ W.cell? ⟨b, off + q * 7 + 4, none⟩ = some (.int .i64 x.2.2.2.2.1) ∧ W.cell? ⟨b, off + q * 7 + 5, none⟩ = some (.slice ad x.2.2.2.2.2.1.length cpw) ∧ W.cell? ⟨b, off + q * 7 + 6, none⟩ = some (.int .i64 x.2.2.2.2.2.2)) := fun W hb => ⟨cell_keep hb x0 (cell_lt x0), cell_keep hb x1 (cell_lt x1), cell_keep hb x2 (cell_lt x2), cell_keep hb x3 (cell_lt x3), cell_keep hb x4 (cell_lt x4), cell_keep hb x5 (cell_lt x5), cell_keep hb x6 (cell_lt x6)⟩
            have CR := ofRoad_any (some ⟨b, off, none⟩) xs cu x ad cpw wr RA (by omega)
            have CR2 := fun W (hb : Below wr.heap.size wr W) => ofRoad_any ao zs co x ad cpw W (slrd_next RO hb) (by omega)
            have HI : Hid _ := I
            clear I RA RO hcell hrd hx
            go_wp2_with fail
            refine CR.mono ?_
            rintro e w7 ⟨a1, c1, rfl, R1, b7⟩
            clear CR x0 x1 x2 x3 x4 x5 x6
            obtain ⟨x0, x1, x2, x3, x4, x5, x6⟩ := KC.out w7 b7
            go_wp2_with fail
            refine (CR2 w7 b7).mono ?_
            rintro e w8 ⟨a2, c2, rfl, R2, b8⟩
            replace R1 := slrd_next R1 b8
            have b78 := below_step b7 b8
            have ho := HO.out.2 x
            rw [ho] at R2 ⊢
            have CL := likeNet_rep a2 a1 (ofR xs x) c2 c1 w8 R2 R1 (by
              have h1 := bkm_le (xs := ofR xs x) (fun v hv => HXD.out v ((List.mem_filter.1 hv).1))
              have h2 := ofR_le xs x
              have h3 : (slM msgM).bk (ofR xs x) = msgsM.bk (ofR xs x) := rfl
              omega)
            clear x0 x1 x2 x3 x4 x5 x6 KC CR2 R1 R2 b7 b8 ho
            go_wp2_with fail
            refine CL.mono ?_
            rintro e w9 ⟨rfl, b9⟩
            have HI2 : Hid _ := letI_below HI.out (below_step b78 b9)
            clear CL b9 b78 HI
            go_wp2
            go_roundw
            case rel => exact ⟨q + 1, by omega, by go_num, HI2.out⟩
            case measure => simp [intOf]; omega
          · have HB9 : Hid _ := I.bl
            have hzx := HO.out.1
            clear I
            rw [hzx]
            clear hzx
            go_wp2
            go_ret
            exact ⟨by simp, HB9.out⟩
end Go.Proofs.Ytbbplcpfkmmcdaa
