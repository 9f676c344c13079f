/- The law FnNets returns true at every code of at most 4096 bytes, and nothing that was there turns. -/
import Derived.Test.YtfflmbpjolgghaaDrawSent
import Derived.Test.YtfflmbpjolgghaaLikes
import Derived.Test.YtfflmbpjolgghaaImplTaken
import Derived.BigQuiet
import Derived.Deep.DeepCutAuto
namespace Go.Proofs.Ytfflmbpjolgghaa
open Go.ChangeShapes Go.WideShapes Go.ChangeAt Go.RowKit
set_option linter.unusedVariables false

theorem lrd_take {w : World} : ∀ {xs : List MsgD} {cs : List Value} (n : Nat), lrd msgR w cs xs → lrd msgR w (cs.take (n * msgR.size)) (xs.take n)
  | [], cs, n, h => by
    rw [show cs = [] from h]
    simp [lrd]
  | x :: xs, cs, 0, h => by simp [lrd]
  | x :: xs, cs, n + 1, ⟨c1, c2, e, h1, h2⟩ => by
    subst e
    have hl := msgR.rd_len h1
    rw [List.take_succ_cons, Nat.add_one_mul, List.take_append, List.take_of_length_le (by omega), show n * msgR.size + msgR.size - c1.length = n * msgR.size by omega]
    exact ⟨c1, _, rfl, h1, lrd_take n h2⟩
theorem lrd_drop {w : World} : ∀ {xs : List MsgD} {cs : List Value} (n : Nat), lrd msgR w cs xs → lrd msgR w (cs.drop (n * msgR.size)) (xs.drop n)
  | [], cs, n, h => by
    rw [show cs = [] from h]
    simp [lrd]
  | x :: xs, cs, 0, h => by simpa using h
  | x :: xs, cs, n + 1, ⟨c1, c2, e, h1, h2⟩ => by
    subst e
    have hl := msgR.rd_len h1
    rw [List.drop_succ_cons, Nat.add_one_mul, List.drop_append, List.drop_of_length_le (by omega), List.nil_append, show n * msgR.size + msgR.size - c1.length = n * msgR.size by omega]
    exact lrd_drop n h2
theorem sub_sum {a b : List Nat} (h : a.Sublist b) : a.sum ≤ b.sum := by
  induction h with
  | slnil => exact Nat.le_refl _
  | cons x _ ih => rw [List.sum_cons]; omega
  | cons_cons x _ ih => rw [List.sum_cons, List.sum_cons]; omega
theorem bk_msgs (l : List MsgD) : msgsM.bk l = l.length + sumbk msgM l := rfl
theorem prod_split1 {α β : Type} {e : TypeId} {R : Rep α} {Q : Rep β} {w : World} {S : Foot} {v : Value} {cs : List Value} {a : List α} {b : β} (h : (prodR (slR e R) Q).own w S (v :: cs) (a, b)) : ∃ S1 S2, (slR e R).own w S1 [v] a ∧ Q.own w S2 cs b ∧ Sub S1 S ∧ Sub S2 S ∧ Dis S1 S2 := by
  obtain ⟨c1, c2, S1, S2, he, h1, h2, u1, u2, u3⟩ := h
  have hl := (slR e R).rd_len ((slR e R).own_rd h1)
  obtain ⟨v1, rfl⟩ : ∃ v, c1 = [v] := List.length_eq_one_iff.1 hl
  simp only [List.cons_append, List.nil_append, List.cons.injEq] at he
  obtain ⟨rfl, rfl⟩ := he
  exact ⟨S1, S2, h1, h2, u1, u2, u3⟩
theorem slrd_take {w : World} {a : Option Addr} {xs : List MsgD} {n : Nat} (h : SlRd msgR w a xs) : SlRd msgR w a (xs.take n) := by
  rcases h with rfl | ⟨b, off, rows, rfl, h1, h2⟩
  · exact .inl (by simp)
  · refine .inr ⟨b, off, rows.take (n * msgR.size), rfl, ?_, fun j u hu => ?_⟩
    · exact lrd_take n h1
    · rw [List.getElem?_take] at hu
      split at hu
      · exact h2 j u hu
      · cases hu
theorem slrd_drop {w : World} {b off n : Nat} {xs : List MsgD} (h : SlRd msgR w (some ⟨b, off, none⟩) xs) : SlRd msgR w (some ⟨b, off + n * 7, none⟩) (xs.drop n) := by
  rcases h with rfl | ⟨b', off', rows, e, h1, h2⟩
  · exact .inl (by simp)
  · simp only [Option.some.injEq, Addr.mk.injEq, and_true] at e
    obtain ⟨rfl, rfl⟩ := e
    refine .inr ⟨b, off + n * 7, rows.drop (n * msgR.size), rfl, lrd_drop n h1, fun j u hu => ?_⟩
    rw [List.getElem?_drop] at hu
    have := h2 _ u hu
    rw [show off + n * 7 + j = off + (n * msgR.size + j) from Nat.add_assoc _ _ _]
    exact this
theorem bk_le {xs : List MsgD} (h : ∀ v ∈ xs, v.2.2.2.2.2.1.length ≤ 3) : msgsM.bk xs ≤ 4 * xs.length := by
  induction xs with
  | nil => exact Nat.le_refl _
  | cons x xs ih =>
    have h1 := ih (fun v hv => h v (by simp [hv]))
    have h2 := h x (by simp)
    have h3 := bk_msg x
    have h4 := bk_ints7 x.2.2.2.2.2.1
    rw [bk_msgs] at h1 ⊢
    simp only [sumbk, List.map_cons, List.sum_cons, List.length_cons] at h1 ⊢
    omega
theorem sent_bk (xs : List MsgD) (u : MsgD) (h61 : xs.length ≤ 61) (h : ∀ v ∈ xs, v.2.2.2.2.2.1.length ≤ 3) (hu : u.2.2.2.2.2.1.length ≤ 3) : msgsM.bk (sentI xs u).1 ≤ 1000 ∧ (sentI xs u).1.length ≤ 62 := by
  have h1 := bk_le h
  unfold sentI
  split
  · split
    · have h2 := bk_le (xs := xs ++ [u]) (by intro v hv; rcases List.mem_append.1 hv with hv | hv; (exact h v hv); (simp at hv; subst hv; exact hu))
      simp at h2
      refine ⟨?_, by simp; omega⟩
      show msgsM.bk (xs ++ [u]) ≤ _
      omega
    · exact ⟨by show msgsM.bk xs ≤ _; omega, by show xs.length ≤ _; omega⟩
  · exact ⟨Nat.zero_le _, Nat.zero_le _⟩
theorem slrd_pre {w : World} {a : Option Addr} {xs ys : List MsgD} (h : SlRd msgR w a (xs ++ ys)) : SlRd msgR w a xs := by
  have := slrd_take (n := xs.length) h
  simpa using this
theorem erase_pre {w : World} {a : Option Addr} {ys : List MsgD} {n : Nat} (h : SlRd msgR w a (ys.eraseIdx n)) : SlRd msgR w a (ys.take n) := by
  have := slrd_take (n := n) h
  rw [List.eraseIdx_eq_take_drop_succ, List.take_append] at this
  by_cases hn : n ≤ ys.length
  · rw [List.take_of_length_le (by simp; omega), show n - (ys.take n).length = 0 by rw [List.length_take]; omega] at this
    simpa using this
  · rw [List.drop_of_length_le (by omega)] at this
    simp only [List.take_nil, List.append_nil, List.take_take, Nat.min_self] at this
    exact this
theorem erase_post {ys : List MsgD} {n : Nat} (hn : n ≤ ys.length) : (ys.eraseIdx n).drop n = ys.drop (n + 1) := by
  rw [List.eraseIdx_eq_take_drop_succ, List.drop_append, List.drop_of_length_le (by simp; omega), List.nil_append, show n - (ys.take n).length = 0 by rw [List.length_take]; omega, List.drop_zero]
theorem shape_of {w : World} {S : Foot} {a : Option Addr} {cap : Nat} {xs : List MsgD} (h : msgsR.own w S [.slice a xs.length cap] xs) : (a = none ∧ xs = [] ∧ cap = 0) ∨ ∃ G, a = some ⟨G, 0, none⟩ := by
  rcases slown_form h with ⟨h1, h2⟩ | ⟨G, cp, h1, _⟩
  · simp only [Value.slice.injEq] at h1
    exact .inl ⟨h1.1, h2, h1.2.2⟩
  · simp only [Value.slice.injEq] at h1
    exact .inr ⟨G, h1.1⟩
theorem sent_yes {xs c : List MsgD} {u : MsgD} (h : sentI xs u = (c, true)) : xs ++ [u] = c ∧ netB (xs ++ [u]) = true := by
  unfold sentI at h
  split at h
  · rename_i h1
    split at h
    · rename_i h2
      simp only [Prod.mk.injEq, and_true] at h
      refine ⟨h, ?_⟩
      simp only [Bool.and_eq_true, decide_eq_true_eq] at h2
      simp only [netB, Bool.and_eq_true, decide_eq_true_eq, List.all_eq_true] at h1 ⊢
      refine ⟨by have := h2.2; simp; omega, fun v hv => ?_⟩
      rcases List.mem_append.1 hv with hv | hv
      · exact h1.2 v hv
      · simp at hv
        rw [hv]
        exact h2.1
    · simp at h
  · simp at h
theorem taken_no {ys c2 : List MsgD} {k : Int} {t : MsgD} (h : takenI ys k = (c2, t, false)) : (netB ys && firstB ys k) = false ∧ ((netB ys = true ∧ ys = c2) ∨ (c2 = [] ∧ ys ≠ [])) := by
  unfold takenI at h
  split at h
  · rename_i h1
    split at h
    · simp at h
    · rename_i h2
      simp only [Prod.mk.injEq] at h
      exact ⟨by simp [h2], .inl ⟨h1, h.1⟩⟩
  · rename_i h1
    simp only [Prod.mk.injEq] at h
    refine ⟨by simp [h1], .inr ⟨h.1.symm, fun e => h1 ?_⟩⟩
    rw [e]
    rfl
theorem taken_yes {ys c2 : List MsgD} {k : Int} {t : MsgD} (h : takenI ys k = (c2, t, true)) : (netB ys && firstB ys k) = true ∧ ∃ n : Nat, k = (n : Int) ∧ ys[n]? = some t ∧ ys.eraseIdx n = c2 := by
  unfold takenI at h
  split at h
  · rename_i h1
    split at h
    · rename_i h2
      obtain ⟨hk0, x, hx, -⟩ : 0 ≤ k ∧ ∃ v, ys[k.toNat]? = some v ∧ NoneOf ys v k.toNat := by simpa [firstB] using h2
      simp only [Prod.mk.injEq, and_true] at h
      refine ⟨by simp [h1, h2], k.toNat, by omega, ?_, h.1⟩
      rw [hx, ← h.2]
      simp [List.getD_eq_getElem?_getD, hx]
    · simp at h
  · simp at h
theorem taken_bk (xs : List MsgD) (k : Int) (h61 : xs.length ≤ 61) (h : ∀ v ∈ xs, v.2.2.2.2.2.1.length ≤ 3) : msgsM.bk (takenI xs k).1 ≤ 1000 ∧ intsM.bk (takenI xs k).2.1.2.2.2.2.2.1 ≤ 3 ∧ (takenI xs k).1.length ≤ 61 := by
  have h1 := bk_le h
  have h0 : intsM.bk ([] : List Int) = 0 := rfl
  unfold takenI
  split
  · split
    · refine ⟨?_, ?_, ?_⟩
      · show msgsM.bk (xs.eraseIdx k.toNat) ≤ _
        have h2 := bk_le (xs := xs.eraseIdx k.toNat) (fun v hv => h v (List.mem_of_mem_eraseIdx hv))
        have h3 : (xs.eraseIdx k.toNat).length ≤ xs.length := List.Sublist.length_le (List.eraseIdx_sublist xs k.toNat)
        omega
      · show intsM.bk (xs.getD k.toNat zeroM).2.2.2.2.2.1 ≤ _
        rw [bk_ints7]
        cases hx : xs[k.toNat]? with
        | none => simp [List.getD_eq_getElem?_getD, hx, zeroM]
        | some v =>
          simp only [List.getD_eq_getElem?_getD, hx, Option.getD_some]
          exact h v (List.mem_of_getElem? hx)
      · have h3 : (xs.eraseIdx k.toNat).length ≤ xs.length := List.Sublist.length_le (List.eraseIdx_sublist xs k.toNat)
        show (xs.eraseIdx k.toNat).length ≤ 61
        omega
    · exact ⟨by show msgsM.bk xs ≤ _; omega, Nat.zero_le _, h61⟩
  · exact ⟨Nat.zero_le _, Nat.zero_le _, Nat.zero_le _⟩

set_option maxRecDepth 100000 in
set_option maxHeartbeats 8000000 in
theorem nets_law (a : Option Addr) (len cap : Nat) (zs : List Int) (w : World) (hr : Row8 w a len zs) (hs : len ≤ 4096) :
    Calls Try.prog 3 #[.slice a len cap] w fun e w' => e = .returned (.bool true) ∧ Below w.heap.size w w' := by
  have hbig : decide ((4096 : Int) < len) = false := by simp; omega
  have b0 := Below.refl w.heap.size w
  go_enter Try.func3, Try.ntmps3
  go_wp2_with fail
  refine (big_any _ _ _ _).mono ?_
  rintro e w0 ⟨rfl, hw⟩
  rw [hw]
  clear hw w0
  rw [hbig]
  clear hbig
  go_wp2_with fail
  refine (drawSent_any _ _ _ zs _ hr).mono ?_
  rintro e v1w ⟨xs, au, cu, u, av, cv, rfl, hx61, hxd, hud, hin, RN, RM, bq⟩
  replace b0 := below_step b0 bq
  clear bq
  have HI : Hid (In7 u) := hin
  have HXD : Hid _ := hxd
  clear hin hxd
  have hxm : xs.length ≤ maxLen := by unfold maxLen; omega
  go_wp2_with fail
  have ZM := heap_at v1w (.cells #[.int .i64 u.1, .int .i64 u.2.1, .int .i64 u.2.2.1, .int .i64 u.2.2.2.1, .int .i64 u.2.2.2.2.1, .slice av u.2.2.2.2.2.1.length cv, .int .i64 u.2.2.2.2.2.2] 27)
  have bz := box_below v1w (.cells #[.int .i64 u.1, .int .i64 u.2.1, .int .i64 u.2.2.1, .int .i64 u.2.2.2.1, .int .i64 u.2.2.2.2.1, .slice av u.2.2.2.2.2.1.length cv, .int .i64 u.2.2.2.2.2.2] 27)
  replace b0 := below_step b0 bz
  replace RN := slrd_next RN bz
  replace RM := slrd_next RM bz
  clear bz
  generalize v1w.alloc (.cells #[.int .i64 u.1, .int .i64 u.2.1, .int .i64 u.2.2.1, .int .i64 u.2.2.2.1, .int .i64 u.2.2.2.2.1, .slice av u.2.2.2.2.2.1.length cv, .int .i64 u.2.2.2.2.2.2] 27) = v2w at b0 ZM RN RM ⊢
  have CI : Hid (∀ W, SlRd msgR W au xs → SlRd intR W av u.2.2.2.2.2.1 → Calls Try.prog 11 #[.slice au xs.length cu, .agg #[.int .i64 u.1, .int .i64 u.2.1, .int .i64 u.2.2.1, .int .i64 u.2.2.2.1, .int .i64 u.2.2.2.2.1, .slice av u.2.2.2.2.2.1.length cv, .int .i64 u.2.2.2.2.2.2]] W fun e w' => ∃ ax cx, e = .returned (.tuple #[.slice ax (sentI xs u).1.length cx, .bool (sentI xs u).2]) ∧ MadeR msgsR W w' [.slice ax (sentI xs u).1.length cx] (sentI xs u).1) := fun W h1 h2 => implSent_any au xs cu u.1 u.2.1 u.2.2.1 u.2.2.2.1 u.2.2.2.2.1 u.2.2.2.2.2.2 u.2.2.2.2.2.1 av cv W h1 hxm HI.out.1 HI.out.2.1 HI.out.2.2.1 HI.out.2.2.2.1 HI.out.2.2.2.2.1 HI.out.2.2.2.2.2 h2
  have CS : Hid (∀ W, SlRd msgR W au xs → SlRd intR W av u.2.2.2.2.2.1 → Calls Try.prog 14 #[.slice au xs.length cu, .agg #[.int .i64 u.1, .int .i64 u.2.1, .int .i64 u.2.2.1, .int .i64 u.2.2.2.1, .int .i64 u.2.2.2.2.1, .slice av u.2.2.2.2.2.1.length cv, .int .i64 u.2.2.2.2.2.2]] W fun e w' => ∃ ax cx, e = .returned (.tuple #[.slice ax (sentI xs u).1.length cx, .bool (sentI xs u).2]) ∧ MadeR msgsR W w' [.slice ax (sentI xs u).1.length cx] (sentI xs u).1) := fun W h1 h2 => specSent_any au xs cu u.1 u.2.1 u.2.2.1 u.2.2.2.1 u.2.2.2.2.1 u.2.2.2.2.2.2 u.2.2.2.2.2.1 av cv W h1 hxm HI.out.1 HI.out.2.1 HI.out.2.2.1 HI.out.2.2.2.1 HI.out.2.2.2.2.1 HI.out.2.2.2.2.2 h2
  have hcb := sent_bk xs u hx61 HXD.out hud
  generalize hsi : sentI xs u = DI at CI CS hcb
  have HSI : Hid (sentI xs u = DI) := hsi
  clear hsi
  obtain ⟨c, ok⟩ := DI
  simp only at CI CS hcb
  refine (CI.out _ RN RM).mono ?_
  rintro e v3w ⟨ax, cx, rfl, mm⟩
  have mb := mm.2
  have RX := msgs_rd mm.1
  have HCX : Hid _ := own_cap mm.1
  replace b0 := below_step b0 mb
  replace ZM := row_keep mb ZM
  replace RN := slrd_next RN mb
  replace RM := slrd_next RM mb
  clear mb mm CI
  obtain ⟨ZMc0, ZMc1, ZMc2, ZMc3, ZMc4, ZMc5, ZMc6⟩ := cells_7 ZM
  have ZMlt := (Array.getElem?_eq_some_iff.1 ZM).1
  go_wp2_with fail
  clear ZMc0 ZMc1 ZMc2 ZMc3 ZMc4 ZMc5 ZMc6 ZMlt
  refine (drawTaken_any _ _ _ zs _ (row8_below hr b0)).mono ?_
  rintro e v4w ⟨ys, aa, ca, k, rfl, hy61, hyd, hk0, hk1, hca, RA, bq⟩
  replace b0 := below_step b0 bq
  replace ZM := row_keep bq ZM
  replace RN := slrd_next RN bq
  replace RM := slrd_next RM bq
  replace RX := slrd_next RX bq
  clear bq hr
  have HYD : Hid _ := hyd
  have HCA : Hid _ := hca
  clear hyd hca
  have hym : ys.length ≤ maxLen := by unfold maxLen; omega
  obtain ⟨ZMc0, ZMc1, ZMc2, ZMc3, ZMc4, ZMc5, ZMc6⟩ := cells_7 ZM
  have ZMlt := (Array.getElem?_eq_some_iff.1 ZM).1
  go_wp2_with fail
  clear ZMc0 ZMc1 ZMc2 ZMc3 ZMc4 ZMc5 ZMc6 ZMlt
  have DI : Hid (∀ W, SlRd msgR W aa ys → Calls Try.prog 13 #[.slice aa ys.length ca, .int .i64 k] W fun e w' => ∃ ay cy bt dt, e = .returned (.tuple #[.slice ay (takenI ys k).1.length cy, .agg #[.int .i64 (takenI ys k).2.1.1, .int .i64 (takenI ys k).2.1.2.1, .int .i64 (takenI ys k).2.1.2.2.1, .int .i64 (takenI ys k).2.1.2.2.2.1, .int .i64 (takenI ys k).2.1.2.2.2.2.1, .slice bt (takenI ys k).2.1.2.2.2.2.2.1.length dt, .int .i64 (takenI ys k).2.1.2.2.2.2.2.2], .bool (takenI ys k).2.2]) ∧ MadeR (prodR msgsR msgR) W w' [.slice ay (takenI ys k).1.length cy, .int .i64 (takenI ys k).2.1.1, .int .i64 (takenI ys k).2.1.2.1, .int .i64 (takenI ys k).2.1.2.2.1, .int .i64 (takenI ys k).2.1.2.2.2.1, .int .i64 (takenI ys k).2.1.2.2.2.2.1, .slice bt (takenI ys k).2.1.2.2.2.2.2.1.length dt, .int .i64 (takenI ys k).2.1.2.2.2.2.2.2] ((takenI ys k).1, (takenI ys k).2.1)) := fun W h1 => implTaken_any aa ys ca k W h1 hym
  have DS : Hid (∀ W, SlRd msgR W aa ys → Calls Try.prog 18 #[.slice aa ys.length ca, .int .i64 k] W fun e w' => ∃ ay cy bt dt, e = .returned (.tuple #[.slice ay (takenI ys k).1.length cy, .agg #[.int .i64 (takenI ys k).2.1.1, .int .i64 (takenI ys k).2.1.2.1, .int .i64 (takenI ys k).2.1.2.2.1, .int .i64 (takenI ys k).2.1.2.2.2.1, .int .i64 (takenI ys k).2.1.2.2.2.2.1, .slice bt (takenI ys k).2.1.2.2.2.2.2.1.length dt, .int .i64 (takenI ys k).2.1.2.2.2.2.2.2], .bool (takenI ys k).2.2]) ∧ MadeR (prodR msgsR msgR) W w' [.slice ay (takenI ys k).1.length cy, .int .i64 (takenI ys k).2.1.1, .int .i64 (takenI ys k).2.1.2.1, .int .i64 (takenI ys k).2.1.2.2.1, .int .i64 (takenI ys k).2.1.2.2.2.1, .int .i64 (takenI ys k).2.1.2.2.2.2.1, .slice bt (takenI ys k).2.1.2.2.2.2.2.1.length dt, .int .i64 (takenI ys k).2.1.2.2.2.2.2.2] ((takenI ys k).1, (takenI ys k).2.1)) := fun W h1 => specTaken_any aa ys ca k W h1 hym
  have htb := taken_bk ys k hy61 HYD.out
  generalize hti : takenI ys k = TI at DI DS htb
  have HTI : Hid (takenI ys k = TI) := hti
  clear hti
  obtain ⟨c2, t, took⟩ := TI
  simp only at DI DS htb
  refine (DI.out _ RA).mono ?_
  rintro e v5w ⟨ay, cy, bt, dt, rfl, mm⟩
  have mb := mm.2
  obtain ⟨T1, T2, mo1, mo2, -⟩ := prod_split1 mm.1
  have RY := msgs_rd mo1
  have RT := ints_rd7 (d := t.2.2.2.2.2.1) (msg_intsd (u := t) mo2)
  have HCY : Hid _ := own_cap mo1
  have HSY : Hid ((ay = none ∧ c2 = [] ∧ cy = 0) ∨ ∃ G, ay = some ⟨G, 0, none⟩) := shape_of mo1
  replace b0 := below_step b0 mb
  replace ZM := row_keep mb ZM
  replace RN := slrd_next RN mb
  replace RM := slrd_next RM mb
  replace RX := slrd_next RX mb
  replace RA := slrd_next RA mb
  clear mb mm mo1 mo2 DI T1 T2
  obtain ⟨ZMc0, ZMc1, ZMc2, ZMc3, ZMc4, ZMc5, ZMc6⟩ := cells_7 ZM
  have ZMlt := (Array.getElem?_eq_some_iff.1 ZM).1
  go_wp2_with fail
  clear ZMc0 ZMc1 ZMc2 ZMc3 ZMc4 ZMc5 ZMc6 ZMlt
  have ZT := heap_at v5w (.cells #[.int .i64 t.1, .int .i64 t.2.1, .int .i64 t.2.2.1, .int .i64 t.2.2.2.1, .int .i64 t.2.2.2.2.1, .slice bt t.2.2.2.2.2.1.length dt, .int .i64 t.2.2.2.2.2.2] 27)
  have bz := box_below v5w (.cells #[.int .i64 t.1, .int .i64 t.2.1, .int .i64 t.2.2.1, .int .i64 t.2.2.2.1, .int .i64 t.2.2.2.2.1, .slice bt t.2.2.2.2.2.1.length dt, .int .i64 t.2.2.2.2.2.2] 27)
  replace b0 := below_step b0 bz
  replace ZM := row_keep bz ZM
  replace RN := slrd_next RN bz
  replace RM := slrd_next RM bz
  replace RX := slrd_next RX bz
  replace RA := slrd_next RA bz
  replace RY := slrd_next RY bz
  replace RT := slrd_next RT bz
  clear bz
  generalize v5w.alloc (.cells #[.int .i64 t.1, .int .i64 t.2.1, .int .i64 t.2.2.1, .int .i64 t.2.2.2.1, .int .i64 t.2.2.2.2.1, .slice bt t.2.2.2.2.2.1.length dt, .int .i64 t.2.2.2.2.2.2] 27) = v6w at b0 ZM ZT RN RM RX RA RY RT ⊢
  refine (CS.out _ RN RM).mono ?_
  rintro e v7w ⟨az, cz, rfl, mm⟩
  have mb := mm.2
  have RZ := msgs_rd mm.1
  replace b0 := below_step b0 mb
  replace ZM := row_keep mb ZM
  replace ZT := row_keep mb ZT
  replace RN := slrd_next RN mb
  replace RM := slrd_next RM mb
  replace RX := slrd_next RX mb
  replace RA := slrd_next RA mb
  replace RY := slrd_next RY mb
  replace RT := slrd_next RT mb
  clear mb mm CS
  obtain ⟨ZMc0, ZMc1, ZMc2, ZMc3, ZMc4, ZMc5, ZMc6⟩ := cells_7 ZM
  have ZMlt := (Array.getElem?_eq_some_iff.1 ZM).1
  obtain ⟨ZTc0, ZTc1, ZTc2, ZTc3, ZTc4, ZTc5, ZTc6⟩ := cells_7 ZT
  have ZTlt := (Array.getElem?_eq_some_iff.1 ZT).1
  go_wp2_with fail
  clear ZMc0 ZMc1 ZMc2 ZMc3 ZMc4 ZMc5 ZMc6 ZMlt ZTc0 ZTc1 ZTc2 ZTc3 ZTc4 ZTc5 ZTc6 ZTlt
  refine (likeNet_rep ax az c cx cz _ RX RZ (by have : (slM msgM).bk c = msgsM.bk c := rfl; omega)).mono ?_
  rintro e v8w ⟨rfl, bq⟩
  replace b0 := below_step b0 bq
  replace ZM := row_keep bq ZM
  replace ZT := row_keep bq ZT
  replace RN := slrd_next RN bq
  replace RM := slrd_next RM bq
  replace RX := slrd_next RX bq
  replace RA := slrd_next RA bq
  replace RY := slrd_next RY bq
  replace RT := slrd_next RT bq
  replace RZ := slrd_next RZ bq
  clear bq RZ
  obtain ⟨ZMc0, ZMc1, ZMc2, ZMc3, ZMc4, ZMc5, ZMc6⟩ := cells_7 ZM
  have ZMlt := (Array.getElem?_eq_some_iff.1 ZM).1
  obtain ⟨ZTc0, ZTc1, ZTc2, ZTc3, ZTc4, ZTc5, ZTc6⟩ := cells_7 ZT
  have ZTlt := (Array.getElem?_eq_some_iff.1 ZT).1
  go_wp2_with fail
  clear ZMc0 ZMc1 ZMc2 ZMc3 ZMc4 ZMc5 ZMc6 ZMlt ZTc0 ZTc1 ZTc2 ZTc3 ZTc4 ZTc5 ZTc6 ZTlt
  refine (implNetOk_any au xs cu _ RN hxm).mono ?_
  rintro e v9w ⟨rfl, bq⟩
  replace b0 := below_step b0 bq
  replace ZM := row_keep bq ZM
  replace ZT := row_keep bq ZT
  replace RN := slrd_next RN bq
  replace RM := slrd_next RM bq
  replace RX := slrd_next RX bq
  replace RA := slrd_next RA bq
  replace RY := slrd_next RY bq
  replace RT := slrd_next RT bq
  clear bq
  obtain ⟨ZMc0, ZMc1, ZMc2, ZMc3, ZMc4, ZMc5, ZMc6⟩ := cells_7 ZM
  have ZMlt := (Array.getElem?_eq_some_iff.1 ZM).1
  obtain ⟨ZTc0, ZTc1, ZTc2, ZTc3, ZTc4, ZTc5, ZTc6⟩ := cells_7 ZT
  have ZTlt := (Array.getElem?_eq_some_iff.1 ZT).1
  go_wp2_with fail
  clear ZMc0 ZMc1 ZMc2 ZMc3 ZMc4 ZMc5 ZMc6 ZMlt ZTc0 ZTc1 ZTc2 ZTc3 ZTc4 ZTc5 ZTc6 ZTlt
  refine (specNetOk_any au xs cu _ RN hxm).mono ?_
  rintro e v10w ⟨rfl, bq⟩
  replace b0 := below_step b0 bq
  replace ZM := row_keep bq ZM
  replace ZT := row_keep bq ZT
  replace RN := slrd_next RN bq
  replace RM := slrd_next RM bq
  replace RX := slrd_next RX bq
  replace RA := slrd_next RA bq
  replace RY := slrd_next RY bq
  replace RT := slrd_next RT bq
  clear bq
  obtain ⟨ZMc0, ZMc1, ZMc2, ZMc3, ZMc4, ZMc5, ZMc6⟩ := cells_7 ZM
  have ZMlt := (Array.getElem?_eq_some_iff.1 ZM).1
  obtain ⟨ZTc0, ZTc1, ZTc2, ZTc3, ZTc4, ZTc5, ZTc6⟩ := cells_7 ZT
  have ZTlt := (Array.getElem?_eq_some_iff.1 ZT).1
  go_wp2_with fail
  clear ZMc0 ZMc1 ZMc2 ZMc3 ZMc4 ZMc5 ZMc6 ZMlt ZTc0 ZTc1 ZTc2 ZTc3 ZTc4 ZTc5 ZTc6 ZTlt
  refine (DS.out _ RA).mono ?_
  rintro e v11w ⟨az, cz, bu, du, rfl, mm⟩
  have mb := mm.2
  obtain ⟨T1, T2, mo1, mo2, -⟩ := prod_split1 mm.1
  have RZ := msgs_rd mo1
  have RU := ints_rd7 (d := t.2.2.2.2.2.1) (msg_intsd (u := t) mo2)
  replace b0 := below_step b0 mb
  replace ZM := row_keep mb ZM
  replace ZT := row_keep mb ZT
  replace RN := slrd_next RN mb
  replace RM := slrd_next RM mb
  replace RX := slrd_next RX mb
  replace RA := slrd_next RA mb
  replace RY := slrd_next RY mb
  replace RT := slrd_next RT mb
  clear mb mm mo1 mo2 DS T1 T2
  obtain ⟨ZMc0, ZMc1, ZMc2, ZMc3, ZMc4, ZMc5, ZMc6⟩ := cells_7 ZM
  have ZMlt := (Array.getElem?_eq_some_iff.1 ZM).1
  obtain ⟨ZTc0, ZTc1, ZTc2, ZTc3, ZTc4, ZTc5, ZTc6⟩ := cells_7 ZT
  have ZTlt := (Array.getElem?_eq_some_iff.1 ZT).1
  go_wp2_with fail
  clear ZMc0 ZMc1 ZMc2 ZMc3 ZMc4 ZMc5 ZMc6 ZMlt ZTc0 ZTc1 ZTc2 ZTc3 ZTc4 ZTc5 ZTc6 ZTlt
  have ZU := heap_at v11w (.cells #[.int .i64 t.1, .int .i64 t.2.1, .int .i64 t.2.2.1, .int .i64 t.2.2.2.1, .int .i64 t.2.2.2.2.1, .slice bu t.2.2.2.2.2.1.length du, .int .i64 t.2.2.2.2.2.2] 27)
  have bz := box_below v11w (.cells #[.int .i64 t.1, .int .i64 t.2.1, .int .i64 t.2.2.1, .int .i64 t.2.2.2.1, .int .i64 t.2.2.2.2.1, .slice bu t.2.2.2.2.2.1.length du, .int .i64 t.2.2.2.2.2.2] 27)
  replace b0 := below_step b0 bz
  replace ZM := row_keep bz ZM
  replace ZT := row_keep bz ZT
  replace RN := slrd_next RN bz
  replace RM := slrd_next RM bz
  replace RX := slrd_next RX bz
  replace RA := slrd_next RA bz
  replace RY := slrd_next RY bz
  replace RT := slrd_next RT bz
  replace RZ := slrd_next RZ bz
  replace RU := slrd_next RU bz
  clear bz
  generalize v11w.alloc (.cells #[.int .i64 t.1, .int .i64 t.2.1, .int .i64 t.2.2.1, .int .i64 t.2.2.2.1, .int .i64 t.2.2.2.2.1, .slice bu t.2.2.2.2.2.1.length du, .int .i64 t.2.2.2.2.2.2] 27) = v12w at b0 ZM ZT ZU RN RM RX RA RY RT RZ RU ⊢
  refine (likeNet_rep ay az c2 cy cz _ RY RZ (by have : (slM msgM).bk c2 = msgsM.bk c2 := rfl; omega)).mono ?_
  rintro e v13w ⟨rfl, bq⟩
  replace b0 := below_step b0 bq
  replace ZM := row_keep bq ZM
  replace ZT := row_keep bq ZT
  replace ZU := row_keep bq ZU
  replace RN := slrd_next RN bq
  replace RM := slrd_next RM bq
  replace RX := slrd_next RX bq
  replace RA := slrd_next RA bq
  replace RY := slrd_next RY bq
  replace RT := slrd_next RT bq
  replace RZ := slrd_next RZ bq
  replace RU := slrd_next RU bq
  clear bq RZ
  obtain ⟨ZMc0, ZMc1, ZMc2, ZMc3, ZMc4, ZMc5, ZMc6⟩ := cells_7 ZM
  have ZMlt := (Array.getElem?_eq_some_iff.1 ZM).1
  obtain ⟨ZTc0, ZTc1, ZTc2, ZTc3, ZTc4, ZTc5, ZTc6⟩ := cells_7 ZT
  have ZTlt := (Array.getElem?_eq_some_iff.1 ZT).1
  obtain ⟨ZUc0, ZUc1, ZUc2, ZUc3, ZUc4, ZUc5, ZUc6⟩ := cells_7 ZU
  have ZUlt := (Array.getElem?_eq_some_iff.1 ZU).1
  go_wp2_with fail
  clear ZMc0 ZMc1 ZMc2 ZMc3 ZMc4 ZMc5 ZMc6 ZMlt ZTc0 ZTc1 ZTc2 ZTc3 ZTc4 ZTc5 ZTc6 ZTlt ZUc0 ZUc1 ZUc2 ZUc3 ZUc4 ZUc5 ZUc6 ZUlt
  refine (likeMsg_rep t.1 t.2.1 t.2.2.1 t.2.2.2.1 t.2.2.2.2.1 t.2.2.2.2.2.2 t.2.2.2.2.2.1 bt bu dt du _ RT RU (by omega)).mono ?_
  rintro e v14w ⟨rfl, bq⟩
  replace b0 := below_step b0 bq
  replace ZM := row_keep bq ZM
  replace ZT := row_keep bq ZT
  replace ZU := row_keep bq ZU
  replace RN := slrd_next RN bq
  replace RM := slrd_next RM bq
  replace RX := slrd_next RX bq
  replace RA := slrd_next RA bq
  replace RY := slrd_next RY bq
  replace RT := slrd_next RT bq
  replace RU := slrd_next RU bq
  clear bq RU ZU
  obtain ⟨ZMc0, ZMc1, ZMc2, ZMc3, ZMc4, ZMc5, ZMc6⟩ := cells_7 ZM
  have ZMlt := (Array.getElem?_eq_some_iff.1 ZM).1
  obtain ⟨ZTc0, ZTc1, ZTc2, ZTc3, ZTc4, ZTc5, ZTc6⟩ := cells_7 ZT
  have ZTlt := (Array.getElem?_eq_some_iff.1 ZT).1
  go_wp2
  clear ZMc0 ZMc1 ZMc2 ZMc3 ZMc4 ZMc5 ZMc6 ZMlt ZTc0 ZTc1 ZTc2 ZTc3 ZTc4 ZTc5 ZTc6 ZTlt
  generalize hcl : c.length = cl
  have HCL : Hid (c.length = cl) := hcl
  clear hcl
  go_cut [118] from 86 to 118 (fun q wx => q = .bool false ∧ Below v14w.heap.size v14w wx)
  case first =>
    cases ok
    · skip
      go_quiet (fail)
      go_wp2_with fail
      go_meet
      exact ⟨rfl, be_drewN (Below.refl _ _) nq⟩
    · skip
      obtain ⟨rfl, hnb⟩ := sent_yes HSI.out
      clear HSI
      have hln : (xs ++ [u]).length = xs.length + 1 := by simp
      obtain ⟨bx, ox, cs, rfl, hrd, hcell⟩ := slrd_at (j := xs.length) (x := u) RX (by simp)
      obtain ⟨ad, cpw, rfl, -, -, -, -, -, -, -, -, hd3⟩ := msg_rd hrd
      have x0 := hcell 0 _ rfl
      rw [show ox + (xs.length * msgR.size + 0) = ox + xs.length * 7 from rfl] at x0
      have x1 := hcell 1 _ rfl
      rw [show ox + (xs.length * msgR.size + 1) = ox + xs.length * 7 + 1 from rfl] at x1
      have x2 := hcell 2 _ rfl
      rw [show ox + (xs.length * msgR.size + 2) = ox + xs.length * 7 + 2 from rfl] at x2
      have x3 := hcell 3 _ rfl
      rw [show ox + (xs.length * msgR.size + 3) = ox + xs.length * 7 + 3 from rfl] at x3
      have x4 := hcell 4 _ rfl
      rw [show ox + (xs.length * msgR.size + 4) = ox + xs.length * 7 + 4 from rfl] at x4
      have x5 := hcell 5 _ rfl
      rw [show ox + (xs.length * msgR.size + 5) = ox + xs.length * 7 + 5 from rfl] at x5
      have x6 := hcell 6 _ rfl
      rw [show ox + (xs.length * msgR.size + 6) = ox + xs.length * 7 + 6 from rfl] at x6
      obtain ⟨z0, z1, z2, z3, z4, z5, z6⟩ := cells_7 ZM
      have x0c : ∀ n : Cls (fun wx => Below v14w.heap.size v14w wx), n.w.cell? ⟨bx, ox + xs.length * 7, none⟩ = some (.int .i64 u.1) := fun n => cell_keep n.h x0 (cell_lt x0)
      have z0c : ∀ n : Cls (fun wx => Below v14w.heap.size v14w wx), n.w.cell? ⟨v1w.heap.size, 0, none⟩ = some (.int .i64 u.1) := fun n => cell_keep n.h z0 (cell_lt z0)
      have x1c : ∀ n : Cls (fun wx => Below v14w.heap.size v14w wx), n.w.cell? ⟨bx, ox + xs.length * 7 + 1, none⟩ = some (.int .i64 u.2.1) := fun n => cell_keep n.h x1 (cell_lt x1)
      have z1c : ∀ n : Cls (fun wx => Below v14w.heap.size v14w wx), n.w.cell? ⟨v1w.heap.size, 1, none⟩ = some (.int .i64 u.2.1) := fun n => cell_keep n.h z1 (cell_lt z1)
      have x2c : ∀ n : Cls (fun wx => Below v14w.heap.size v14w wx), n.w.cell? ⟨bx, ox + xs.length * 7 + 2, none⟩ = some (.int .i64 u.2.2.1) := fun n => cell_keep n.h x2 (cell_lt x2)
      have z2c : ∀ n : Cls (fun wx => Below v14w.heap.size v14w wx), n.w.cell? ⟨v1w.heap.size, 2, none⟩ = some (.int .i64 u.2.2.1) := fun n => cell_keep n.h z2 (cell_lt z2)
      have x3c : ∀ n : Cls (fun wx => Below v14w.heap.size v14w wx), n.w.cell? ⟨bx, ox + xs.length * 7 + 3, none⟩ = some (.int .i64 u.2.2.2.1) := fun n => cell_keep n.h x3 (cell_lt x3)
      have z3c : ∀ n : Cls (fun wx => Below v14w.heap.size v14w wx), n.w.cell? ⟨v1w.heap.size, 3, none⟩ = some (.int .i64 u.2.2.2.1) := fun n => cell_keep n.h z3 (cell_lt z3)
      have x4c : ∀ n : Cls (fun wx => Below v14w.heap.size v14w wx), n.w.cell? ⟨bx, ox + xs.length * 7 + 4, none⟩ = some (.int .i64 u.2.2.2.2.1) := fun n => cell_keep n.h x4 (cell_lt x4)
      have z4c : ∀ n : Cls (fun wx => Below v14w.heap.size v14w wx), n.w.cell? ⟨v1w.heap.size, 4, none⟩ = some (.int .i64 u.2.2.2.2.1) := fun n => cell_keep n.h z4 (cell_lt z4)
      have x5c : ∀ n : Cls (fun wx => Below v14w.heap.size v14w wx), n.w.cell? ⟨bx, ox + xs.length * 7 + 5, none⟩ = some (.slice ad u.2.2.2.2.2.1.length cpw) := fun n => cell_keep n.h x5 (cell_lt x5)
      have z5c : ∀ n : Cls (fun wx => Below v14w.heap.size v14w wx), n.w.cell? ⟨v1w.heap.size, 5, none⟩ = some (.slice av u.2.2.2.2.2.1.length cv) := fun n => cell_keep n.h z5 (cell_lt z5)
      have x6c : ∀ n : Cls (fun wx => Below v14w.heap.size v14w wx), n.w.cell? ⟨bx, ox + xs.length * 7 + 6, none⟩ = some (.int .i64 u.2.2.2.2.2.2) := fun n => cell_keep n.h x6 (cell_lt x6)
      have z6c : ∀ n : Cls (fun wx => Below v14w.heap.size v14w wx), n.w.cell? ⟨v1w.heap.size, 6, none⟩ = some (.int .i64 u.2.2.2.2.2.2) := fun n => cell_keep n.h z6 (cell_lt z6)
      have HCX2 := HCX.out
      rw [hln] at HCX2
      have hcx1 : xs.length + 1 ≤ cx := HCX2.1
      have hcx2 : cx ≤ 9223372036854775807 := HCX2.2
      clear HCX2
      have hbx := bk_le HXD.out
      have K1 : Hid (∀ n : Cls (fun wx => Below v14w.heap.size v14w wx), Calls Try.prog 15 #[.slice (some ⟨bx, ox, none⟩) xs.length cx, .slice au xs.length cu] n.w fun e w' => e = .returned (.bool true) ∧ Below n.w.heap.size n.w w') := fun n => likeNet_rep _ _ xs cx cu n.w (slrd_next (slrd_pre RX) n.h) (slrd_next RN n.h) (by have : (slM msgM).bk xs = msgsM.bk xs := rfl; omega)
      have K2 : Hid (∀ n : Cls (fun wx => Below v14w.heap.size v14w wx), Calls Try.prog 19 #[.agg #[.int .i64 u.1, .int .i64 u.2.1, .int .i64 u.2.2.1, .int .i64 u.2.2.2.1, .int .i64 u.2.2.2.2.1, .slice ad u.2.2.2.2.2.1.length cpw, .int .i64 u.2.2.2.2.2.2], .agg #[.int .i64 u.1, .int .i64 u.2.1, .int .i64 u.2.2.1, .int .i64 u.2.2.2.1, .int .i64 u.2.2.2.2.1, .slice av u.2.2.2.2.2.1.length cv, .int .i64 u.2.2.2.2.2.2]] n.w fun e w' => e = .returned (.bool true) ∧ Below n.w.heap.size n.w w') := fun n => likeMsg_rep u.1 u.2.1 u.2.2.1 u.2.2.2.1 u.2.2.2.2.1 u.2.2.2.2.2.2 u.2.2.2.2.2.1 ad av cpw cv n.w (slrd_next hd3 n.h) (slrd_next RM n.h) (by rw [bk_ints7]; omega)
      have K3 : Hid (∀ n : Cls (fun wx => Below v14w.heap.size v14w wx), Calls Try.prog 16 #[.slice (some ⟨bx, ox, none⟩) cl cx] n.w fun e w' => e = .returned (.bool true) ∧ Below n.w.heap.size n.w w') := fun n => by have := implNetOk_any (some ⟨bx, ox, none⟩) (xs ++ [u]) cx n.w (slrd_next RX n.h) (by rw [hln]; unfold maxLen; omega); rwa [hnb, HCL.out] at this
      have HX : Hid _ := And.intro b0 (And.intro RA (And.intro RY (And.intro RT ZT)))
      clear x0 z0 x1 z1 x2 z2 x3 z3 x4 z4 x5 z5 x6 z6 hcell hrd hd3 RX RN RM ZM b0 RA RY RT ZT hnb HCX HI HXD hbx
      have hcl0 : cl = xs.length + 1 := by rw [← HCL.out]; exact hln
      have hwx : IntKind.i64.wrap ((xs.length : Int) + 1) = (xs.length : Int) + 1 := by rw [IntKind.wrap_i64]; omega
      have hbn : ((cl : Int) != (xs.length : Int) + 1) = false := by simp; omega
      have hwl : (xs.length : Int) < (cl : Int) := by omega
      have hwl2 : xs.length < cl := by omega
      have hwl3 : xs.length ≤ cx := by omega
      have hwl4 : (xs.length : Int) ≤ (cx : Int) := by omega
      clear hln hcl0
      refine region_class (fun wx => Below v14w.heap.size v14w wx) (by kernel_rfl) (by kernel_rfl) ((Below.refl _ v14w).drew) ?_
      intro hne
      repeat (quiet_step (first | (go_at_call 15; exact calls_class (K1.out _) (fun w' hc bb => below_step hc bb)) | (go_at_call 19; exact calls_class (K2.out _) (fun w' hc bb => below_step hc bb)) | (go_at_call 16; exact calls_class (K3.out _) (fun w' hc bb => below_step hc bb))))
      refine wpQuiet_nil ?_
      intro wz b2
      clear hne K1 K2 K3 HX x0c z0c x1c z1c x2c z2c x3c z3c x4c z4c x5c z5c x6c z6c
      go_wp2_with fail
      go_meet
      exact ⟨rfl, b2⟩
  case rest =>
    obtain ⟨rfl, bq⟩ := hcut
    clear hx61 hxm hud HI HXD HSI RN RM RX ZM HCX hcb HCL
    obtain ⟨v15w, hwn⟩ : ∃ x, x = wc := ⟨_, rfl⟩
    subst hwn
    replace b0 := below_step b0 bq
    replace ZT := row_keep bq ZT
    replace RA := slrd_next RA bq
    replace RY := slrd_next RY bq
    replace RT := slrd_next RT bq
    clear bq
    obtain ⟨ZTc0, ZTc1, ZTc2, ZTc3, ZTc4, ZTc5, ZTc6⟩ := cells_7 ZT
    have ZTlt := (Array.getElem?_eq_some_iff.1 ZT).1
    cases took
    · skip
      obtain ⟨hfb, hcc⟩ := taken_no HTI.out
      have CF := implFirst_any aa ys ca k _ RA hym
      rw [hfb] at CF
      go_wp2_with fail
      clear ZTc0 ZTc1 ZTc2 ZTc3 ZTc4 ZTc5 ZTc6 ZTlt
      refine CF.mono ?_
      rintro e v16w ⟨rfl, bq⟩
      replace b0 := below_step b0 bq
      replace ZT := row_keep bq ZT
      replace RA := slrd_next RA bq
      replace RY := slrd_next RY bq
      replace RT := slrd_next RT bq
      clear bq CF hfb HTI
      rcases hcc with ⟨-, rfl⟩ | ⟨rfl, hne⟩
      · skip
        obtain ⟨ZTc0, ZTc1, ZTc2, ZTc3, ZTc4, ZTc5, ZTc6⟩ := cells_7 ZT
        have ZTlt := (Array.getElem?_eq_some_iff.1 ZT).1
        go_wp2_with fail
        clear ZTc0 ZTc1 ZTc2 ZTc3 ZTc4 ZTc5 ZTc6 ZTlt
        refine (likeNet_rep ay aa ys cy ca _ RY RA (by have : (slM msgM).bk ys = msgsM.bk ys := rfl; omega)).mono ?_
        rintro e v17w ⟨rfl, bq⟩
        replace b0 := below_step b0 bq
        replace ZT := row_keep bq ZT
        replace RA := slrd_next RA bq
        replace RY := slrd_next RY bq
        replace RT := slrd_next RT bq
        clear bq
        clear ZT RA RY RT
        go_wp2
        go_ret
        exact ⟨rfl, b0⟩
      · skip
        have hyl : 0 < ys.length := List.length_pos_iff.2 hne
        clear hne HYD HCY RY
        have CN := fun W => likeNet_no ay aa 0 ys.length cy ca W (by omega) (by omega) (by omega)
        obtain ⟨ZTc0, ZTc1, ZTc2, ZTc3, ZTc4, ZTc5, ZTc6⟩ := cells_7 ZT
        have ZTlt := (Array.getElem?_eq_some_iff.1 ZT).1
        go_wp2_with fail
        clear ZTc0 ZTc1 ZTc2 ZTc3 ZTc4 ZTc5 ZTc6 ZTlt
        refine (CN _).mono ?_
        rintro e v18w ⟨rfl, hw⟩
        rw [hw]
        clear hw v18w CN
        clear ZT RA RT
        go_wp2
        go_ret
        exact ⟨rfl, b0⟩
    · skip
      clear ZTc0 ZTc1 ZTc2 ZTc3 ZTc4 ZTc5 ZTc6 ZTlt
      obtain ⟨hfb, n, rfl, hyn, rfl⟩ := taken_yes HTI.out
      clear HTI
      have hnl := (List.getElem?_eq_some_iff.1 hyn).1
      obtain ⟨ml, hml⟩ : ∃ ml, ys.length = ml + 1 := ⟨ys.length - 1, by omega⟩
      have hel : (ys.eraseIdx n).length = ml := by rw [List.length_eraseIdx, if_pos hnl]; omega
      obtain ⟨ba, oa, cs, rfl, hrd, hcell⟩ := slrd_at RA hyn
      obtain ⟨ad, cpw, rfl, -, -, -, -, -, -, -, -, hd3⟩ := msg_rd hrd
      have x0 := hcell 0 _ rfl
      rw [show oa + (n * msgR.size + 0) = oa + n * 7 from rfl] at x0
      have x1 := hcell 1 _ rfl
      rw [show oa + (n * msgR.size + 1) = oa + n * 7 + 1 from rfl] at x1
      have x2 := hcell 2 _ rfl
      rw [show oa + (n * msgR.size + 2) = oa + n * 7 + 2 from rfl] at x2
      have x3 := hcell 3 _ rfl
      rw [show oa + (n * msgR.size + 3) = oa + n * 7 + 3 from rfl] at x3
      have x4 := hcell 4 _ rfl
      rw [show oa + (n * msgR.size + 4) = oa + n * 7 + 4 from rfl] at x4
      have x5 := hcell 5 _ rfl
      rw [show oa + (n * msgR.size + 5) = oa + n * 7 + 5 from rfl] at x5
      have x6 := hcell 6 _ rfl
      rw [show oa + (n * msgR.size + 6) = oa + n * 7 + 6 from rfl] at x6
      obtain ⟨z0, z1, z2, z3, z4, z5, z6⟩ := cells_7 ZT
      have x0c : ∀ n' : Cls (fun wx => Below v15w.heap.size v15w wx), n'.w.cell? ⟨ba, oa + n * 7, none⟩ = some (.int .i64 t.1) := fun n' => cell_keep n'.h x0 (cell_lt x0)
      have z0c : ∀ n' : Cls (fun wx => Below v15w.heap.size v15w wx), n'.w.cell? ⟨v5w.heap.size, 0, none⟩ = some (.int .i64 t.1) := fun n' => cell_keep n'.h z0 (cell_lt z0)
      have x1c : ∀ n' : Cls (fun wx => Below v15w.heap.size v15w wx), n'.w.cell? ⟨ba, oa + n * 7 + 1, none⟩ = some (.int .i64 t.2.1) := fun n' => cell_keep n'.h x1 (cell_lt x1)
      have z1c : ∀ n' : Cls (fun wx => Below v15w.heap.size v15w wx), n'.w.cell? ⟨v5w.heap.size, 1, none⟩ = some (.int .i64 t.2.1) := fun n' => cell_keep n'.h z1 (cell_lt z1)
      have x2c : ∀ n' : Cls (fun wx => Below v15w.heap.size v15w wx), n'.w.cell? ⟨ba, oa + n * 7 + 2, none⟩ = some (.int .i64 t.2.2.1) := fun n' => cell_keep n'.h x2 (cell_lt x2)
      have z2c : ∀ n' : Cls (fun wx => Below v15w.heap.size v15w wx), n'.w.cell? ⟨v5w.heap.size, 2, none⟩ = some (.int .i64 t.2.2.1) := fun n' => cell_keep n'.h z2 (cell_lt z2)
      have x3c : ∀ n' : Cls (fun wx => Below v15w.heap.size v15w wx), n'.w.cell? ⟨ba, oa + n * 7 + 3, none⟩ = some (.int .i64 t.2.2.2.1) := fun n' => cell_keep n'.h x3 (cell_lt x3)
      have z3c : ∀ n' : Cls (fun wx => Below v15w.heap.size v15w wx), n'.w.cell? ⟨v5w.heap.size, 3, none⟩ = some (.int .i64 t.2.2.2.1) := fun n' => cell_keep n'.h z3 (cell_lt z3)
      have x4c : ∀ n' : Cls (fun wx => Below v15w.heap.size v15w wx), n'.w.cell? ⟨ba, oa + n * 7 + 4, none⟩ = some (.int .i64 t.2.2.2.2.1) := fun n' => cell_keep n'.h x4 (cell_lt x4)
      have z4c : ∀ n' : Cls (fun wx => Below v15w.heap.size v15w wx), n'.w.cell? ⟨v5w.heap.size, 4, none⟩ = some (.int .i64 t.2.2.2.2.1) := fun n' => cell_keep n'.h z4 (cell_lt z4)
      have x5c : ∀ n' : Cls (fun wx => Below v15w.heap.size v15w wx), n'.w.cell? ⟨ba, oa + n * 7 + 5, none⟩ = some (.slice ad t.2.2.2.2.2.1.length cpw) := fun n' => cell_keep n'.h x5 (cell_lt x5)
      have z5c : ∀ n' : Cls (fun wx => Below v15w.heap.size v15w wx), n'.w.cell? ⟨v5w.heap.size, 5, none⟩ = some (.slice bt t.2.2.2.2.2.1.length dt) := fun n' => cell_keep n'.h z5 (cell_lt z5)
      have x6c : ∀ n' : Cls (fun wx => Below v15w.heap.size v15w wx), n'.w.cell? ⟨ba, oa + n * 7 + 6, none⟩ = some (.int .i64 t.2.2.2.2.2.2) := fun n' => cell_keep n'.h x6 (cell_lt x6)
      have z6c : ∀ n' : Cls (fun wx => Below v15w.heap.size v15w wx), n'.w.cell? ⟨v5w.heap.size, 6, none⟩ = some (.int .i64 t.2.2.2.2.2.2) := fun n' => cell_keep n'.h z6 (cell_lt z6)
      have HCY2 := HCY.out
      rw [hel] at HCY2
      have hcy1 : ml ≤ cy := HCY2.1
      have hcy2 : cy ≤ 9223372036854775807 := HCY2.2
      have hca1 : ml + 1 ≤ ca := by have := HCA.out.1; omega
      have hca2 : ca ≤ 9223372036854775807 := HCA.out.2
      clear HCY2 HCY HCA
      have hbk := bk_le HYD.out
      have hnm : n ≤ ml := by omega
      have hn1 : (n : Int) < (ml : Int) + 1 := by omega
      have hn2 : n < ml + 1 := by omega
      have hn3 : n ≤ cy := by omega
      have hn4 : n ≤ ca := by omega
      have hn5 : (n : Int) ≤ (cy : Int) := by omega
      have hn6 : (n : Int) ≤ (ca : Int) := by omega
      have hn7 : (n : Int) ≤ (ml : Int) := by omega
      have hn8 : n + 1 ≤ ml + 1 := by omega
      have hn9 : (n : Int) + 1 ≤ (ml : Int) + 1 := by omega
      have hwr : IntKind.i64.wrap ((n : Int) + 1) = (n : Int) + 1 := by rw [IntKind.wrap_i64]; omega
      have hs1 : ((n : Int) + 1).toNat = n + 1 := by omega
      have hs2 : (n : Int) + 1 ≤ (ca : Int) := by omega
      have hs3 : n + 1 ≤ ca := by omega
      have hs4 : ¬ ((n : Int) + 1 < 0) := by omega
      have hs5 : ¬ ((ml : Int) + 1 < (n : Int) + 1) := by omega
      have K0 : Hid (∀ n' : Cls (fun wx => Below v15w.heap.size v15w wx), Calls Try.prog 20 #[.slice (some ⟨ba, oa, none⟩) (ml + 1) ca, .int .i64 (n : Int)] n'.w fun e w' => e = .returned (.bool true) ∧ Below n'.w.heap.size n'.w w') := fun n' => by have := implFirst_any (some ⟨ba, oa, none⟩) ys ca (n : Int) n'.w (slrd_next RA n'.h) hym; rwa [hfb, hml] at this
      have K1 : Hid (∀ n' : Cls (fun wx => Below v15w.heap.size v15w wx), Calls Try.prog 19 #[.agg #[.int .i64 t.1, .int .i64 t.2.1, .int .i64 t.2.2.1, .int .i64 t.2.2.2.1, .int .i64 t.2.2.2.2.1, .slice bt t.2.2.2.2.2.1.length dt, .int .i64 t.2.2.2.2.2.2], .agg #[.int .i64 t.1, .int .i64 t.2.1, .int .i64 t.2.2.1, .int .i64 t.2.2.2.1, .int .i64 t.2.2.2.2.1, .slice ad t.2.2.2.2.2.1.length cpw, .int .i64 t.2.2.2.2.2.2]] n'.w fun e w' => e = .returned (.bool true) ∧ Below n'.w.heap.size n'.w w') := fun n' => likeMsg_rep t.1 t.2.1 t.2.2.1 t.2.2.2.1 t.2.2.2.2.1 t.2.2.2.2.2.2 t.2.2.2.2.2.1 bt ad dt cpw n'.w (slrd_next RT n'.h) (slrd_next hd3 n'.h) (by omega)
      have ht1 : (ys.take n).length = n := by rw [List.length_take]; omega
      have ht2 : (ys.drop (n + 1)).length = ml - n := by rw [List.length_drop]; omega
      have K2 : Hid (∀ n' : Cls (fun wx => Below v15w.heap.size v15w wx), Calls Try.prog 15 #[.slice ay n cy, .slice (some ⟨ba, oa, none⟩) n ca] n'.w fun e w' => e = .returned (.bool true) ∧ Below n'.w.heap.size n'.w w') := fun n' => by have := likeNet_rep ay (some ⟨ba, oa, none⟩) (ys.take n) cy ca n'.w (slrd_next (erase_pre RY) n'.h) (slrd_next (slrd_take RA) n'.h) (by have h1 := bk_le (xs := ys.take n) (fun v hv => HYD.out v (List.mem_of_mem_take hv)); have h2 : (ys.take n).length ≤ ys.length := (by simp <;> omega); have h3 : (slM msgM).bk (ys.take n) = msgsM.bk (ys.take n) := rfl; omega); rwa [ht1] at this
      have RY2 : ∀ b o, ay = some ⟨b, o, none⟩ → SlRd msgR v15w (some ⟨b, o + n * 7, none⟩) (ys.drop (n + 1)) := fun b o e => by rw [← erase_post (ys := ys) (n := n) (by omega)]; exact slrd_drop (by rw [← e]; exact RY)
      have HX : Hid _ := And.intro b0 (And.intro RA (And.intro RY (And.intro RY2 hel)))
      clear x0 z0 x1 z1 x2 z2 x3 z3 x4 z4 x5 z5 x6 z6 hcell hrd hd3 RA RY RT ZT b0 hfb RY2 hbk
      rw [hel, hml]
      clear hel
      have K3 : Hid (∀ (n' : Cls (fun wx => Below v15w.heap.size v15w wx)) (p q : Option Addr) (c1 c2 : Nat), SlRd msgR v15w p (ys.drop (n + 1)) → SlRd msgR v15w q (ys.drop (n + 1)) → Calls Try.prog 15 #[.slice p (ml - n) c1, .slice q (ml - n) c2] n'.w fun e w' => e = .returned (.bool true) ∧ Below n'.w.heap.size n'.w w') := fun n' p q c1 c2 h1 h2 => by have := likeNet_rep p q (ys.drop (n + 1)) c1 c2 n'.w (slrd_next h1 n'.h) (slrd_next h2 n'.h) (by have h1 := bk_le (xs := ys.drop (n + 1)) (fun v hv => HYD.out v (List.mem_of_mem_drop hv)); have h2 : (ys.drop (n + 1)).length ≤ ys.length := (by simp <;> omega); have h3 : (slM msgM).bk (ys.drop (n + 1)) = msgsM.bk (ys.drop (n + 1)) := rfl; omega); rwa [ht2] at this
      have P2 : Hid (SlRd msgR v15w (if ca = n + 1 then some ⟨ba, oa, none⟩ else some ⟨ba, oa + (n + 1) * 7, none⟩) (ys.drop (n + 1))) := by
        unfold Hid
        split
        · exact .inl (List.eq_nil_of_length_eq_zero (by omega))
        · exact slrd_drop HX.out.2.1
      rcases HSY.out with ⟨rfl, he0, rfl⟩ | ⟨G, rfl⟩
      · skip
        have hml0 : ml = 0 := by have := HX.out.2.2.2.2; rw [he0] at this; simpa using this.symm
        have hn0 : n = 0 := by omega
        subst hml0 hn0
        clear he0
        clear hcy1 hcy2 hnm hn1 hn2 hn3 hn4 hn5 hn6 hn7 hn8 hn9 hwr hs1 hs2 hs3 hs4 hs5 K2 K3 P2 ht1 ht2
        have Kz : Hid (∀ (n' : Cls (fun wx => Below v15w.heap.size v15w wx)) (p q : Option Addr) (c1 c2 : Nat), Calls Try.prog 15 #[.slice p 0 c1, .slice q 0 c2] n'.w fun e w' => e = .returned (.bool true) ∧ Below n'.w.heap.size n'.w w') := fun n' p q c1 c2 => likeNet_rep p q [] c1 c2 n'.w (.inl rfl) (.inl rfl) (by have : (slM msgM).bk ([] : List MsgD) = 0 := rfl; omega)
        have Kf : Hid (∀ n' : Cls (fun wx => Below v15w.heap.size v15w wx), Calls Try.prog 20 #[.slice (some ⟨ba, oa, none⟩) 1 ca, .int .i64 0] n'.w fun e w' => e = .returned (.bool true) ∧ Below n'.w.heap.size n'.w w') := K0
        clear K0
        have hc1 : 1 ≤ ca := hca1
        have hc2 : (1 : Int) ≤ (ca : Int) := by omega
        have hwr1 : IntKind.i64.wrap 1 = 1 := by rw [IntKind.wrap_i64]; rfl
        have hwr0 : IntKind.i64.wrap 0 = 0 := by rw [IntKind.wrap_i64]; rfl
        clear hca1
        simp only [Nat.zero_mul, Nat.add_zero] at x0c x1c x2c x3c x4c x5c x6c
        have HB : Hid _ := HX.out.1
        clear HX
        go_wp2
        refine region_class (fun wx => Below v15w.heap.size v15w wx) (by kernel_rfl) (by kernel_rfl) ((Below.refl _ v15w).drew) ?_
        intro hne
        repeat (quiet_step (first | (go_at_call 20; exact calls_class (Kf.out _) (fun w' hc bb => below_step hc bb)) | (go_at_call 19; exact calls_class (K1.out _) (fun w' hc bb => below_step hc bb)) | (go_at_call 15; exact calls_class (Kz.out _ _ _ _ _) (fun w' hc bb => below_step hc bb))))
        refine wpQuiet_nil ?_
        intro wx b2
        have b3 := below_step HB.out b2
        clear b2 hne Kf K1 Kz x0c z0c x1c z1c x2c z2c x3c z3c x4c z4c x5c z5c x6c z6c
        go_wp2
        all_goals
          go_ret
          exact ⟨rfl, b3⟩
      · skip
        have P1 : Hid (SlRd msgR v15w (if cy = n then some ⟨G, 0, none⟩ else some ⟨G, n * 7, none⟩) (ys.drop (n + 1))) := by
          unfold Hid
          split
          · exact .inl (List.eq_nil_of_length_eq_zero (by omega))
          · have := HX.out.2.2.2.1 G 0 rfl
            rwa [Nat.zero_add] at this
        have HB : Hid _ := HX.out.1
        clear HX
        go_wp2
        refine region_class (fun wx => Below v15w.heap.size v15w wx) (by kernel_rfl) (by kernel_rfl) ((Below.refl _ v15w).drew) ?_
        intro hne
        repeat (quiet_step (first | (go_at_call 20; exact calls_class (K0.out _) (fun w' hc bb => below_step hc bb)) | (go_at_call 19; exact calls_class (K1.out _) (fun w' hc bb => below_step hc bb)) | (go_at_call_of 15 ml; exact calls_class (K3.out _ _ _ _ _ P1.out P2.out) (fun w' hc bb => below_step hc bb)) | (go_at_call 15; exact calls_class (K2.out _) (fun w' hc bb => below_step hc bb))))
        refine wpQuiet_nil ?_
        intro wx b2
        have b3 := below_step HB.out b2
        clear b2 hne K0 K1 K2 K3 P1 P2 x0c z0c x1c z1c x2c z2c x3c z3c x4c z4c x5c z5c x6c z6c
        go_wp2
        all_goals
          go_ret
          exact ⟨rfl, b3⟩
end Go.Proofs.Ytfflmbpjolgghaa
