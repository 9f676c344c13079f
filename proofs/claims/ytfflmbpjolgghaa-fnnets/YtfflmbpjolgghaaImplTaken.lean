/- A letter taken, by the program. No condition but lists that read as told, of lengths that a machine can hold. -/
import Derived.Test.YtfflmbpjolgghaaTakeOne
import Derived.Test.YtfflmbpjolgghaaImplSent
import Derived.Test.YtfflmbpjolgghaaImplFirst
import Derived.Test.YtfflmbpjolgghaaSpecTaken
namespace Go.Proofs.Ytfflmbpjolgghaa
open Go.ChangeShapes Go.WideShapes Go.ChangeAt Go.RowKit
set_option linter.unusedVariables false

/-- One of the messages by itself, and the others. -/
theorem lown_erase {w : World} : ∀ {ls : List LetD} {xs : List MsgD} {T : Foot} {k : Nat} {l : LetD} {x : MsgD}, lown msgR w T (flatL ls) xs → (∀ u ∈ ls, u.2.length = 7) → ls[k]? = some l → xs[k]? = some x →
    ∃ T1 T2, lown msgR w T1 (flatL (ls.eraseIdx k)) (xs.eraseIdx k) ∧ msgR.own w T2 l.2 x ∧ Sub T1 T ∧ Sub T2 T ∧ Dis T1 T2
  | [], _, _, k, _, _, _, _, hl, _ => by simp at hl
  | _, [], _, k, _, _, _, _, _, hx => by simp at hx
  | m :: ls, y :: xs, T, k, l, x, ⟨c1, c2, S1, S2, e, h1, h2, a1, a2, d⟩, h7, hl, hx => by
    have hc1 : c1.length = 7 := msgR.rd_len (msgR.own_rd h1)
    have hm7 := h7 m (by simp)
    have e' : m.2 ++ flatL ls = c1 ++ c2 := by simpa [flatL] using e
    obtain ⟨rfl, rfl⟩ := List.append_inj e' (by omega)
    cases k with
    | zero =>
      simp at hl hx
      subst hl hx
      exact ⟨S2, S1, h2, h1, a2, a1, d.symm⟩
    | succ k =>
      simp at hl hx
      obtain ⟨T1, T2, g1, g2, g3, g4, g5⟩ := lown_erase h2 (fun u hu => h7 u (by simp [hu])) hl hx
      refine ⟨(fun b => S1 b ∨ T1 b), T2, ?_, g2, ?_, g4.trans a2, ?_⟩
      · rw [List.eraseIdx_cons_succ, List.eraseIdx_cons_succ]
        exact ⟨m.2, _, S1, T1, by simp [flatL], h1, g1, fun b hb => .inl hb, fun b hb => .inr hb, d.sub (Sub.refl _) g3⟩
      · rintro b (hb | hb)
        · exact a1 b hb
        · exact a2 b (g3 b hb)
      · rintro b (hb | hb) hx
        · exact d b hb (g4 b hx)
        · exact g5 b hb hx
theorem rise_erase {ls : List LetD} (h : Rising ls) (k : Nat) : Rising (ls.eraseIdx k) := List.Pairwise.sublist (List.eraseIdx_sublist ls k) h

set_option maxRecDepth 8000 in
set_option maxHeartbeats 4000000 in
theorem implTaken_any (a : Option Addr) (xs : List MsgD) (cap : Nat) (k : Int) (w : World) (h : SlRd msgR w a xs) (hm : xs.length ≤ maxLen) :
    Calls Try.prog 13 #[.slice a xs.length cap, .int .i64 k] w fun e w' => ∃ av cv bv dv, e = .returned (.tuple #[.slice av (takenI xs k).1.length cv, .agg #[.int .i64 (takenI xs k).2.1.1, .int .i64 (takenI xs k).2.1.2.1, .int .i64 (takenI xs k).2.1.2.2.1, .int .i64 (takenI xs k).2.1.2.2.2.1, .int .i64 (takenI xs k).2.1.2.2.2.2.1, .slice bv (takenI xs k).2.1.2.2.2.2.2.1.length dv, .int .i64 (takenI xs k).2.1.2.2.2.2.2.2], .bool (takenI xs k).2.2]) ∧
      MadeR (prodR msgsR msgR) w w' [.slice av (takenI xs k).1.length cv, .int .i64 (takenI xs k).2.1.1, .int .i64 (takenI xs k).2.1.2.1, .int .i64 (takenI xs k).2.1.2.2.1, .int .i64 (takenI xs k).2.1.2.2.2.1, .int .i64 (takenI xs k).2.1.2.2.2.2.1, .slice bv (takenI xs k).2.1.2.2.2.2.2.1.length dv, .int .i64 (takenI xs k).2.1.2.2.2.2.2.2] ((takenI xs k).1, (takenI xs k).2.1) := by
  have HN : Hid (∀ W, Below w.heap.size w W → Calls Try.prog 16 #[.slice a xs.length cap] W fun e w' => e = .returned (.bool (netB xs)) ∧ Below W.heap.size W w') := fun W hb => implNetOk_any a xs cap W (slrd_next h hb) hm
  have HF : Hid (∀ W, Below w.heap.size w W → Calls Try.prog 20 #[.slice a xs.length cap, .int .i64 k] W fun e w' => e = .returned (.bool (netB xs && firstB xs k)) ∧ Below W.heap.size W w') := fun W hb => implFirst_any a xs cap k W (slrd_next h hb) hm
  have X := heap_at w (.cells #[.int .i64 0, .int .i64 0, .int .i64 0, .int .i64 0, .int .i64 0, .slice none 0 0, .int .i64 0] 27)
  have B := box_below w (.cells #[.int .i64 0, .int .i64 0, .int .i64 0, .int .i64 0, .int .i64 0, .slice none 0 0, .int .i64 0] 27)
  cases hn : netB xs
  · have HS : Hid (takenI xs k = ([], zeroM, false)) := by unfold Hid takenI; rw [hn]; rfl
    rw [hn] at HN
    rw [HS.out]
    show Calls Try.prog 13 _ w fun e w' => ∃ av cv bv dv, e = .returned (.tuple #[.slice av 0 cv, .agg #[.int .i64 0, .int .i64 0, .int .i64 0, .int .i64 0, .int .i64 0, .slice bv 0 dv, .int .i64 0], .bool false]) ∧ MadeR (prodR msgsR msgR) w w' [.slice av 0 cv, .int .i64 0, .int .i64 0, .int .i64 0, .int .i64 0, .int .i64 0, .slice bv 0 dv, .int .i64 0] (([] : List MsgD), zeroM)
    clear h hm HF
    go_enter Try.func13, Try.ntmps13
    go_wp2_with fail
    generalize w.alloc (.cells #[.int .i64 0, .int .i64 0, .int .i64 0, .int .i64 0, .int .i64 0, .slice none 0 0, .int .i64 0] 27) = W0 at B X ⊢
    refine (HN.out _ B).mono ?_
    rintro e w1 ⟨rfl, b1⟩
    replace B := below_step B b1
    replace X := row_keep b1 X
    have sz := (Array.getElem?_eq_some_iff.1 X).1
    clear b1 HN
    have MN := made_none (e := 27) (R := msgR) w1
    obtain ⟨x0, x1, x2, x3, x4, x5, x6⟩ := cells_7 X
    obtain ⟨f0, f1, f2, f3, f4, f5, f6⟩ := froz_7 X
    have HX : Hid _ := And.intro X MN
    clear X MN
    go_wp2
    obtain ⟨X, -⟩ := HX.out
    obtain ⟨r0, r1, r2, r3, r4, r5, r6⟩ := cells_7 (heap_on (.cells #[] 27) (put_7 (y0 := .int .i64 0) (y1 := .int .i64 0) (y2 := .int .i64 0) (y3 := .int .i64 0) (y4 := .int .i64 0) (y5 := .slice none 0 0) (y6 := .int .i64 0) X))
    refine bodyPost_ret (v := .tuple #[.slice (some ⟨w1.heap.size, 0, none⟩) 0 0, .agg #[.int .i64 0, .int .i64 0, .int .i64 0, .int .i64 0, .int .i64 0, .slice none 0 0, .int .i64 0], .bool false]) (by simp [results, Try.results13, go_sem, r0, r1, r2, r3, r4, r5, r6]) rfl ⟨some ⟨w1.heap.size, 0, none⟩, 0, none, 0, rfl, ?_⟩
    refine madeR_step (below_setC (below_setC (below_setC (below_setC (below_setC (below_setC (below_setC (B) (by omega)) (by omega)) (by omega)) (by omega)) (by omega)) (by omega)) (by omega)) (w1 := (((((((w1.setCell ⟨w.heap.size, 0, none⟩ (.int .i64 0)).setCell ⟨w.heap.size, 1, none⟩ (.int .i64 0)).setCell ⟨w.heap.size, 2, none⟩ (.int .i64 0)).setCell ⟨w.heap.size, 3, none⟩ (.int .i64 0)).setCell ⟨w.heap.size, 4, none⟩ (.int .i64 0)).setCell ⟨w.heap.size, 5, none⟩ (.slice none 0 0)).setCell ⟨w.heap.size, 6, none⟩ (.int .i64 0))) ?_
    have MN := made_none (e := 27) (R := msgR) ((((((((w1.setCell ⟨w.heap.size, 0, none⟩ (.int .i64 0)).setCell ⟨w.heap.size, 1, none⟩ (.int .i64 0)).setCell ⟨w.heap.size, 2, none⟩ (.int .i64 0)).setCell ⟨w.heap.size, 3, none⟩ (.int .i64 0)).setCell ⟨w.heap.size, 4, none⟩ (.int .i64 0)).setCell ⟨w.heap.size, 5, none⟩ (.slice none 0 0)).setCell ⟨w.heap.size, 6, none⟩ (.int .i64 0)))
    have e9 : ((((((((w1.setCell ⟨w.heap.size, 0, none⟩ (.int .i64 0)).setCell ⟨w.heap.size, 1, none⟩ (.int .i64 0)).setCell ⟨w.heap.size, 2, none⟩ (.int .i64 0)).setCell ⟨w.heap.size, 3, none⟩ (.int .i64 0)).setCell ⟨w.heap.size, 4, none⟩ (.int .i64 0)).setCell ⟨w.heap.size, 5, none⟩ (.slice none 0 0)).setCell ⟨w.heap.size, 6, none⟩ (.int .i64 0))).heap.size = w1.heap.size := by simp
    rw [e9] at MN
    exact ⟨⟨[_], [_, _, _, _, _, _, _], _, fun _ => False, rfl, MN.1, own_none, Sub.refl _, fun _ h => h.elim, fun _ _ h => h⟩, MN.2⟩
  · rw [hn] at HN HF
    obtain ⟨k1, k2⟩ := net_small hn
    have HC : Hid (∀ W, Below w.heap.size w W → Calls Try.prog 38 #[.slice a xs.length cap] W fun e w' => ∃ pb S T v ls, e = .returned (.pointer (some ⟨pb, 0, none⟩)) ∧ PostB W w' pb S T v ls xs) := fun W hb => posted_any a xs cap W (slrd_next h hb) (by omega) k2
    have e0 : (w.alloc (.cells #[.int .i64 0, .int .i64 0, .int .i64 0, .int .i64 0, .int .i64 0, .slice none 0 0, .int .i64 0] 27)).heap.size = w.heap.size + 1 := by simp
    cases hf : firstB xs k
    · have HS : Hid (takenI xs k = (xs, zeroM, false)) := by unfold Hid takenI; rw [hn, hf]; rfl
      rw [hf] at HF
      rw [HS.out]
      show Calls Try.prog 13 _ w fun e w' => ∃ av cv bv dv, e = .returned (.tuple #[.slice av xs.length cv, .agg #[.int .i64 0, .int .i64 0, .int .i64 0, .int .i64 0, .int .i64 0, .slice bv 0 dv, .int .i64 0], .bool false]) ∧ MadeR (prodR msgsR msgR) w w' [.slice av xs.length cv, .int .i64 0, .int .i64 0, .int .i64 0, .int .i64 0, .int .i64 0, .slice bv 0 dv, .int .i64 0] (xs, zeroM)
      clear h hm k2
      go_enter Try.func13, Try.ntmps13
      go_wp2_with fail
      generalize w.alloc (.cells #[.int .i64 0, .int .i64 0, .int .i64 0, .int .i64 0, .int .i64 0, .slice none 0 0, .int .i64 0] 27) = W0 at B X e0 ⊢
      refine (HN.out _ B).mono ?_
      rintro e w1 ⟨rfl, b1⟩
      have z1 := b1.size
      replace B := below_step B b1
      replace X := row_keep b1 X
      clear b1 HN
      go_wp2_with fail
      refine (HC.out _ B).mono ?_
      rintro e w2 ⟨pb, S, T, v, ls, rfl, PB⟩
      have B2 := below_step B PB.below
      have HPB : Hid _ := PB
      clear HC PB
      go_wp2_with fail
      refine (HF.out _ B2).mono ?_
      rintro e w3 ⟨rfl, b1⟩
      have HL := listB_any (postB_next HPB.out b1) (by omega)
      clear b1 HF HPB B2
      go_wp2_with fail
      refine HL.mono ?_
      rintro e w4 ⟨av, cv, rfl, mm⟩
      have z4 := mm.2.size
      replace X := row_keep mm.2 X
      obtain ⟨x0, x1, x2, x3, x4, x5, x6⟩ := cells_7 X
      obtain ⟨f0, f1, f2, f3, f4, f5, f6⟩ := froz_7 X
      have HX : Hid _ := And.intro X (And.intro mm B)
      clear X mm B HL
      go_wp2
      obtain ⟨X, mm, B⟩ := HX.out
      obtain ⟨r0, r1, r2, r3, r4, r5, r6⟩ := cells_7 (put_7 (y0 := .int .i64 0) (y1 := .int .i64 0) (y2 := .int .i64 0) (y3 := .int .i64 0) (y4 := .int .i64 0) (y5 := .slice none 0 0) (y6 := .int .i64 0) X)
      have c7 := put7_chg (w := w4) (g := w.heap.size) (v0 := .int .i64 0) (v1 := .int .i64 0) (v2 := .int .i64 0) (v3 := .int .i64 0) (v4 := .int .i64 0) (v5 := .slice none 0 0) (v6 := .int .i64 0)
      have k1 := own_chg mm.1 c7 (fun j hj e => by have := hj.1; omega)
      have k2 := c7.below (below_step B mm.2) (fun j hj => by omega) (by omega)
      refine bodyPost_ret (v := .tuple #[.slice av xs.length cv, .agg #[.int .i64 0, .int .i64 0, .int .i64 0, .int .i64 0, .int .i64 0, .slice none 0 0, .int .i64 0], .bool false]) (by simp [results, Try.results13, go_sem, r0, r1, r2, r3, r4, r5, r6]) rfl ⟨av, cv, none, 0, rfl, ⟨[_], [_, _, _, _, _, _, _], _, fun _ => False, rfl, k1, own_none, rng_sub (by omega) c7.size, fun _ h => h.elim, fun _ _ h => h⟩, k2⟩
    · obtain ⟨hk0, x, hx, -⟩ : 0 ≤ k ∧ ∃ v, xs[k.toNat]? = some v ∧ NoneOf xs v k.toNat := by simpa [firstB] using hf
      obtain ⟨n, rfl⟩ : ∃ n : Nat, k = (n : Int) := ⟨k.toNat, by omega⟩
      simp only [Int.toNat_natCast] at hx
      have hnl := (List.getElem?_eq_some_iff.1 hx).1
      have HS : Hid (takenI xs (n : Int) = (xs.eraseIdx n, x, true)) := by
        unfold Hid takenI
        rw [hn, hf]
        simp [List.getD_eq_getElem?_getD, hx]
      rw [hf] at HF
      rw [HS.out]
      show Calls Try.prog 13 _ w fun e w' => ∃ av cv bv dv, e = .returned (.tuple #[.slice av (xs.eraseIdx n).length cv, .agg #[.int .i64 x.1, .int .i64 x.2.1, .int .i64 x.2.2.1, .int .i64 x.2.2.2.1, .int .i64 x.2.2.2.2.1, .slice bv x.2.2.2.2.2.1.length dv, .int .i64 x.2.2.2.2.2.2], .bool true]) ∧ MadeR (prodR msgsR msgR) w w' [.slice av (xs.eraseIdx n).length cv, .int .i64 x.1, .int .i64 x.2.1, .int .i64 x.2.2.1, .int .i64 x.2.2.2.1, .int .i64 x.2.2.2.2.1, .slice bv x.2.2.2.2.2.1.length dv, .int .i64 x.2.2.2.2.2.2] (xs.eraseIdx n, x)
      have HXX : Hid _ := hx
      clear h hm k2 hf hk0 hx
      go_enter Try.func13, Try.ntmps13
      go_wp2_with fail
      generalize w.alloc (.cells #[.int .i64 0, .int .i64 0, .int .i64 0, .int .i64 0, .int .i64 0, .slice none 0 0, .int .i64 0] 27) = W0 at B X e0 ⊢
      refine (HN.out _ B).mono ?_
      rintro e w1 ⟨rfl, b1⟩
      have z1 := b1.size
      replace B := below_step B b1
      replace X := row_keep b1 X
      clear b1 HN
      go_wp2_with fail
      refine (HC.out _ B).mono ?_
      rintro e w2 ⟨pb, S, T, v, ls, rfl, PB⟩
      have B2 := below_step B PB.below
      have HPB : Hid _ := PB
      clear HC PB
      go_wp2_with fail
      refine (HF.out _ B2).mono ?_
      rintro e w3 ⟨rfl, b3⟩
      have PB := postB_next HPB.out b3
      obtain ⟨va, vc, rfl⟩ := slown_val PB.own
      obtain ⟨l, hl⟩ : ∃ l, ls[n]? = some l := ⟨_, List.getElem?_eq_getElem (by have := PB.len; omega)⟩
      obtain ⟨g, rfl, hSg, -⟩ := post_shape PB.own (by have := PB.len; omega)
      have hr := num_rise PB.num
      have HT := take_any pb S g vc ls n l w3 PB.row PB.sp (fun b hb => (PB.sl b hb).2) PB.own (by have := PB.len; omega) PB.sh hr PB.num hl
      obtain ⟨T1, T2, g1, g2, g3, g4, g5⟩ := lown_erase PB.bag (fun u hu => msgc_len (PB.sh u hu)) hl HXX.out
      obtain ⟨vd, hl2, -, -, -, -, -, -, hod⟩ := msg_own g2
      obtain ⟨bv, dv, rfl⟩ := slown_val hod
      obtain ⟨ln, l2⟩ := l
      simp only at hl2 g2
      subst hl2
      replace X := row_keep PB.below X
      have HE : Hid _ := And.intro PB (And.intro hSg (And.intro hr (And.intro g1 (And.intro g2 (And.intro g3 (And.intro g4 (And.intro g5 X)))))))
      have z3 : w1.heap.size ≤ w3.heap.size := PB.below.size
      clear b3 PB HPB HF hl hSg hr g1 g2 g3 g4 g5 hod X B2
      go_wp2_with fail
      refine HT.mono ?_
      rintro e w4 ⟨l4, rfl, t1, t2, t3, t4, t5⟩
      obtain ⟨PB, hSg, hr, g1, g2, g3, g4, g5, X⟩ := HE.out
      have z4 := t5.size
      have hgl := PB.sl g hSg
      have hpl := PB.pl
      have X4 := (t5.block w.heap.size (by omega) (fun hx => by rcases hx with hx | hx <;> omega)).trans X
      have dT : Dis T (fun b => b = g ∨ b = pb) := by
        rintro b hb (hx | hx)
        · subst hx
          exact PB.dis _ hSg hb
        · subst hx
          exact PB.tp hb
      have g1' := lown_keep g1 (t5.keeps (dT.sub g3 (Sub.refl _)))
      have g2' := own_chg g2 t5 (dT.sub g4 (Sub.refl _))
      -- the box of m
      have B5 := box_below w4 (.cells #[.int .i64 x.1, .int .i64 x.2.1, .int .i64 x.2.2.1, .int .i64 x.2.2.2.1, .int .i64 x.2.2.2.2.1, .slice bv x.2.2.2.2.2.1.length dv, .int .i64 x.2.2.2.2.2.2] 27)
      have X8 := heap_at w4 (.cells #[.int .i64 x.1, .int .i64 x.2.1, .int .i64 x.2.2.1, .int .i64 x.2.2.2.1, .int .i64 x.2.2.2.2.1, .slice bv x.2.2.2.2.2.1.length dv, .int .i64 x.2.2.2.2.2.2] 27)
      have e5 : (w4.alloc (.cells #[.int .i64 x.1, .int .i64 x.2.1, .int .i64 x.2.2.1, .int .i64 x.2.2.2.1, .int .i64 x.2.2.2.2.1, .slice bv x.2.2.2.2.2.1.length dv, .int .i64 x.2.2.2.2.2.2] 27)).heap.size = w4.heap.size + 1 := by simp
      have X5 := row_keep B5 X4
      have t1' := row_keep B5 t1
      have t2' := postR.own_keep t2 (keeps_below B5)
      have g1'' := lown_keep g1' (keeps_below B5)
      have g2'' := msgR.own_keep g2' (keeps_below B5)
      have hxl : (ls.eraseIdx n).length = (xs.eraseIdx n).length := by rw [List.length_eraseIdx, List.length_eraseIdx, PB.len]
      have HL := fun (W : World) (q1 : W.heap[pb]? = _) (q2 : postR.own W S _ l4) (q3 : lown msgR W T1 _ _) (q4 : ∀ k, S k → k < W.heap.size) (q5 : ∀ k, T1 k → k < W.heap.size) =>
        postList_any pb S T1 (.slice (some ⟨g, 0, none⟩) l4.length vc) l4 (ls.eraseIdx n) (xs.eraseIdx n) W q1 q2 q3 (PB.dis.sub (Sub.refl _) g3) PB.sp (fun hx => PB.tp (g3 _ hx)) q4 q5 (fun u hu => PB.sh u (List.mem_of_mem_eraseIdx hu)) (rise_erase hr n) t3 t4 (by rw [hxl, List.length_eraseIdx]; split <;> omega) hxl
      have HW : Hid _ := And.intro B (And.intro PB (And.intro hSg (And.intro t5 (And.intro g3 (And.intro g4 g5)))))
      clear g1' g2' t1 t2 t3 t4 X4 X g1 g2 HE
      go_wp2
      generalize w4.alloc (.cells #[.int .i64 x.1, .int .i64 x.2.1, .int .i64 x.2.2.1, .int .i64 x.2.2.2.1, .int .i64 x.2.2.2.2.1, .slice bv x.2.2.2.2.2.1.length dv, .int .i64 x.2.2.2.2.2.2] 27) = W5 at B5 X8 e5 X5 t1' t2' g1'' g2'' ⊢
      obtain ⟨m0, m1, m2, m3, m4, m5, m6⟩ := cells_7 X8
      obtain ⟨x0, x1, x2, x3, x4, x5, x6⟩ := cells_7 X5
      obtain ⟨f0, f1, f2, f3, f4, f5, f6⟩ := froz_7 X5
      have HLL := HL W5.drew t1' (own_drew t2') (lown_keep g1'' fun _ _ _ => rfl) (fun b hb => by have := (HW.out.2.1.sl b hb).2; show b < W5.heap.size; omega) (fun b hb => by have := (HW.out.2.1.tl b (HW.out.2.2.2.2.1 b hb)).2; show b < W5.heap.size; omega)
      have HG : Hid _ := And.intro (own_drew g2'') (And.intro B5 (And.intro X8 X5))
      clear HL t1' t2' g1'' g2'' B5 X8 X5
      have hp5 : pb < w3.heap.size := (Array.getElem?_eq_some_iff.1 HW.out.2.1.row).1
      have hsx : ∀ b, S b → w1.heap.size ≤ b ∧ b < w3.heap.size := HW.out.2.1.sl
      have HS5 : Hid _ := hsx
      clear hsx
      go_region_with (first
        | (go_at_call 40
           refine HLL.mono ?_
           rintro e w6 ⟨av, cv, rfl, o6, c6⟩
           have z6 : W5.heap.size ≤ w6.heap.size := c6.size
           have X8' := (c6.block w4.heap.size (by show w4.heap.size < W5.heap.size; omega) (fun hx => by rcases hx with hx | hx; (have := (HS5.out _ hx).2; omega); omega)).trans (show W5.drew.heap[w4.heap.size]? = _ from HG.out.2.2.1)
           have X5' := (c6.block w.heap.size (by show w.heap.size < W5.heap.size; omega) (fun hx => by rcases hx with hx | hx; (have := (HS5.out _ hx).1; omega); omega)).trans (show W5.drew.heap[w.heap.size]? = _ from HG.out.2.2.2)
           have HO : Hid _ := And.intro o6 (And.intro c6 X5')
           clear m0 m1 m2 m3 m4 m5 m6 x0 x1 x2 x3 x4 x5 x6 f0 f1 f2 f3 f4 f5 f6
           obtain ⟨m0, m1, m2, m3, m4, m5, m6⟩ := cells_7 X8'
           obtain ⟨x0, x1, x2, x3, x4, x5, x6⟩ := cells_7 X5'
           obtain ⟨f0, f1, f2, f3, f4, f5, f6⟩ := froz_7 X5'
           clear X8' X5' o6 c6))
      all_goals
        go_wp2
        obtain ⟨o6, c6, X5'⟩ := HO.out
        obtain ⟨g2'', B5, -, -⟩ := HG.out
        obtain ⟨B, PB, hSg, t5, g3, g4, g5⟩ := HW.out
        obtain ⟨r0, r1, r2, r3, r4, r5, r6⟩ := cells_7 (put_7 (y0 := .int .i64 x.1) (y1 := .int .i64 x.2.1) (y2 := .int .i64 x.2.2.1) (y3 := .int .i64 x.2.2.2.1) (y4 := .int .i64 x.2.2.2.2.1) (y5 := .slice bv x.2.2.2.2.2.1.length dv) (y6 := .int .i64 x.2.2.2.2.2.2) X5')
        have c7 := put7_chg (w := w6) (g := w.heap.size) (v0 := .int .i64 x.1) (v1 := .int .i64 x.2.1) (v2 := .int .i64 x.2.2.1) (v3 := .int .i64 x.2.2.2.1) (v4 := .int .i64 x.2.2.2.2.1) (v5 := .slice bv x.2.2.2.2.2.1.length dv) (v6 := .int .i64 x.2.2.2.2.2.2)
        have b4 := t5.below (below_step B PB.below) (fun j hj => by have := hgl.1; rcases hj with hj | hj <;> omega) (by omega)
        have b5 : Below w.heap.size w W5.drew := (below_step b4 B5).drew
        have b6 := c6.below b5 (fun j hj => by rcases hj with hj | hj; (have := (HS5.out _ hj).1; omega); omega) (by show w.heap.size ≤ W5.heap.size; omega)
        have b7 := c7.below b6 (fun j hj => by omega) (by omega)
        have k1 := own_chg o6 c7 (fun j hj e => by rcases hj with hj | hj; (have := (PB.tl _ (g3 _ hj)).1; omega); (have : W5.heap.size ≤ j := hj.1; omega))
        have k2 := own_chg (own_chg g2'' c6 (fun j hj e => by rcases e with e | e; (exact PB.dis _ e (g4 _ hj)); (subst e; exact PB.tp (g4 _ hj)))) c7 (fun j hj e => by have := (PB.tl _ (g4 _ hj)).1; omega)
        refine bodyPost_ret (v := .tuple #[.slice av (xs.eraseIdx n).length cv, .agg #[.int .i64 x.1, .int .i64 x.2.1, .int .i64 x.2.2.1, .int .i64 x.2.2.2.1, .int .i64 x.2.2.2.2.1, .slice bv x.2.2.2.2.2.1.length dv, .int .i64 x.2.2.2.2.2.2], .bool true]) (by simp [results, Try.results13, go_sem, r0, r1, r2, r3, r4, r5, r6]) rfl ⟨av, cv, bv, dv, rfl, ⟨[_], [_, _, _, _, _, _, _], _, _, rfl, k1, k2, ?_, ?_, ?_⟩, b7⟩
        · intro j hj
          have s7 := c7.size
          rcases hj with hj | hj
          · have := PB.tl _ (g3 _ hj)
            exact ⟨by omega, by omega⟩
          · have h1 : W5.heap.size ≤ j := hj.1
            have h2 := hj.2
            exact ⟨by omega, by omega⟩
        · intro j hj
          have s7 := c7.size
          have := PB.tl _ (g4 _ hj)
          exact ⟨by omega, by omega⟩
        · intro j hj hx
          rcases hj with hj | hj
          · exact g5 j hj hx
          · have h1 : W5.heap.size ≤ j := hj.1
            have := PB.tl _ (g4 _ hx)
            omega
end Go.Proofs.Ytfflmbpjolgghaa
