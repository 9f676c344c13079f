
/- The contracts of MemoryOk and NewMemory, of the specification, and how a list of lists is built by append and changed in one place. Conditions: lengths that a machine can hold. -/
import Derived.Test.YtcnnojfkpkmdmaaMems8
import Derived.Test.YtcnnojfkpkmdmaaLines7
namespace Go.Proofs.Ytcnnojfkpkmdmaa
open Go.ChangeShapes Go.WideShapes Go.ChangeAt Go.RowKit

theorem app_own {B k g c : Nat} {W w1 : World} {v v' : Value} {rs : List Rw} {xs : List Int} (hown : W.ownsRow B 38 1 v k (rs.map Rw.v)) (hin : Inn B W.heap.size W (rs ++ [⟨g, c, xs⟩]))
    (hown' : w1.ownsRow B 38 1 v' (k + 1) (rs.map Rw.v ++ [.slice (some ⟨g, 0, none⟩) xs.length c])) (hgrow : W.grownBy w1 v.ownBlock) :
    w1.ownsRow B 38 1 v' (k + 1) ((rs ++ [(⟨g, c, xs⟩ : Rw)]).map Rw.v) ∧ Inn B w1.heap.size w1 (rs ++ [(⟨g, c, xs⟩ : Rw)]) := by
  refine ⟨by rw [List.map_append]; exact hown', ?_⟩
  refine inn_mono (inn_block hin fun i r hr => ?_) hgrow.size
  have o := (hin.1 i r hr).1
  refine hgrow.block _ (owni_lt o).2 ?_
  rcases hown.2 with ⟨rfl, _⟩ | ⟨G, cap, cur, rfl, hb, hh, rest⟩
  · simp [Value.ownBlock]
  · obtain ⟨c2, h2⟩ := own_type o
    simp only [Value.ownBlock, ne_eq, Option.some.injEq]
    intro e
    rw [e, hh] at h2
    simp at h2

theorem shape_of {w : World} {B : Nat} {e : TypeId} {v : Value} {n : Nat} {xs : List Value} (h : w.ownsRow B e 1 v n xs) (hv : v ≠ .slice none 0 0) :
    ∃ g cap, v = .slice (some ⟨g, 0, none⟩) n cap ∧ B ≤ g ∧ g < w.heap.size := by
  rcases h.2 with ⟨rfl, _⟩ | ⟨g, cap, cur, rfl, hb, hg, _⟩
  · exact absurd rfl hv
  · exact ⟨g, cap, rfl, hb, (Array.getElem?_eq_some_iff.1 hg).1⟩

theorem inn_set {lo hi hi' g c j : Nat} {w : World} {rs : List Rw} {xs : List Int} (h : Inn lo hi w rs) (o : OwnI lo w g c xs) (hg : hi ≤ g) (hg2 : g < hi') : Inn lo hi' w (rs.set j ⟨g, c, xs⟩) := by
  have key : ∀ (i : Nat) (r : Rw), (rs.set j ⟨g, c, xs⟩)[i]? = some r → (rs[i]? = some r ∧ i ≠ j) ∨ (i = j ∧ r = ⟨g, c, xs⟩) := by
    intro i r hr
    rw [List.getElem?_set] at hr
    split at hr
    · rename_i e
      split at hr
      · right
        simp at hr
        exact ⟨e.symm, hr.symm⟩
      · cases hr
    · rename_i e
      exact .inl ⟨hr, fun e' => e e'.symm⟩
  refine ⟨fun i r hr => ?_, fun i k r s hr hs e => ?_⟩
  · rcases key i r hr with ⟨a1, a2⟩ | ⟨a1, rfl⟩
    · have := h.1 i r a1
      exact ⟨this.1, by omega⟩
    · exact ⟨o, hg2⟩
  · rcases key i r hr with ⟨a1, a2⟩ | ⟨a1, rfl⟩ <;> rcases key k s hs with ⟨b1, b2⟩ | ⟨b1, rfl⟩
    · exact h.2 i k r s a1 b1 e
    · have := (h.1 i r a1).2; simp at e; omega
    · have := (h.1 k s b1).2; simp at e; omega
    · omega

theorem ownM_set {lo hi hi' G cap g c j : Nat} {w : World} {xss : List (List Int)} {xs : List Int} (h : OwnM lo hi w G cap xss) (o : OwnI lo w g c xs) (hg : hi ≤ g) (hg2 : g < hi') (hj : j < xss.length) :
    (∃ v0, w.cell? ⟨G, j, none⟩ = some v0) ∧ w.frozen? ⟨G, j, none⟩ = false ∧
    OwnM lo hi' (w.setCell ⟨G, j, none⟩ (.slice (some ⟨g, 0, none⟩) xs.length c)) G cap (xss.set j xs) ∧ w.grownBy (w.setCell ⟨G, j, none⟩ (.slice (some ⟨g, 0, none⟩) xs.length c)) (some G) := by
  obtain ⟨rs, rfl, h2, h3, h4⟩ := h
  have R := World.ownsRow.stored h2 j (.slice (some ⟨g, 0, none⟩) xs.length c)
  refine ⟨?_, World.ownsRow.frozenAt h2 j, ⟨rs.set j ⟨g, c, xs⟩, List.map_set, ?_, by omega, ?_⟩, R.2⟩
  · rw [World.ownsRow.cellAt h2 j (by omega)]
    exact ⟨_, List.getElem?_eq_getElem (by have := h2.1; omega)⟩
  · rw [List.length_set, List.map_set]
    exact R.1
  · exact inn_out (inn_set h4 o hg hg2) h2 R.2

set_option maxHeartbeats 1000000 in
theorem specMemoryOk_any (a : Option Addr) (xss : List (List Int)) (cap : Nat) (w : World) (h : ReadsM w a xss) (hm : xss.length ≤ 2305843009213693952) :
    Calls Try.prog 22 #[.slice a xss.length cap] w fun e w' => e = .returned (.bool (memOk xss)) ∧ w' = w := by
  go_enter Try.func22, Try.ntmps22
  go_wp2
  go_loop [3] (fun i => ∃ k : Nat, k ≤ xss.length ∧ i = .int .i64 k ∧ ∀ (i : Nat) xs, i < k → xss[i]? = some xs → isL xs = true) (fun i => xss.length - (intOf i).toNat)
  case atStart => exact ⟨0, Nat.zero_le _, rfl, fun i xs hi => absurd hi (Nat.not_lt_zero _)⟩
  case round =>
    obtain ⟨k, hk, rfl, hall⟩ := hrel
    by_cases hlt : k < xss.length
    · have hlt' : (k : Int) < (xss.length : Int) := by omega
      obtain ⟨xs, hx⟩ := get_of_lt hlt
      obtain ⟨b, off, aj, cj, rfl, g1, hr⟩ := readsM_at h hx
      have HR : Hid (Reads w aj xs) := hr
      have HX : Hid (xss[k]? = some xs) := hx
      have HA : Hid _ := hall
      clear h hr hx hall
      cases hn : isL xs
      · have HM := memOk_not HX.out hn
        go_wp2_with (go_at_call 45; refine (specLineOk_any _ xs _ _ HR.out).mono ?_; rintro e w' ⟨rfl, hw'⟩; rw [hw', hn]; clear hw' w')
        go_ret
        exact ⟨ret_bool (by first | rfl | exact HM.symm | simp [HM]), rfl⟩
      · go_wp2_with (go_at_call 45; refine (specLineOk_any _ xs _ _ HR.out).mono ?_; rintro e w' ⟨rfl, hw'⟩; rw [hw', hn]; clear hw' w')
        go_round
        case rel =>
          refine ⟨k + 1, by omega, by go_num, fun i ys hi hy => ?_⟩
          by_cases e : i = k
          · subst e
            rw [HX.out] at hy
            cases hy
            exact hn
          · exact HA.out i ys (by omega) hy
        case measure => simp [intOf]; omega
    · have hkl : k = xss.length := by omega
      subst hkl
      have HB : Hid (betw (xss.length : Int) 1 16 = memOk xss) := by
        unfold Hid
        cases hl : betw (xss.length : Int) 1 16
        · unfold memOk; rw [hl]; rfl
        · exact (memOk_all hl hall).symm
      clear hall
      go_wp2_with (go_at_call 30; refine (l1In_any _ _ _ _).mono ?_; rintro e w' ⟨rfl, rfl⟩)
      go_ret
      exact ⟨ret_bool HB.out, rfl⟩

theorem rep_push {rs : List Rw} {k g c : Nat} {xs : List Int} (h : rs.map Rw.xs = List.replicate k xs) : (rs ++ [(⟨g, c, xs⟩ : Rw)]).map Rw.xs = List.replicate (k + 1) xs := by
  rw [List.map_append, h, List.replicate_succ']
  rfl

set_option maxHeartbeats 1000000 in
theorem l4New_any (n : Nat) (w : World) (hn : n ≤ 1000) :
    Calls Try.prog 31 #[.int .i64 n] w fun e w' => ∃ v, e = .returned v ∧ MadeM w w' v (List.replicate n [0, 0]) := by
  obtain ⟨i0, hi0, hz0, hz1, hz2⟩ := info_parts Try.infoS
  go_enter Try.func31, Try.ntmps31
  go_wp2
  go_loopw [3, 4] (fun v i wr => ∃ k : Nat, k ≤ n ∧ i = .int .i64 k ∧ v ≠ .slice none 0 0 ∧ ∃ rs : List Rw, rs.map Rw.xs = List.replicate k [0, 0] ∧ wr.ownsRow w.heap.size 38 1 v k (rs.map Rw.v) ∧ Inn w.heap.size wr.heap.size wr rs ∧ Below w.heap.size w wr)
    (fun _ i _ => n - (intOf i).toNat)
  case atStart => exact ⟨0, by omega, rfl, by simp, [], rfl, World.ownsRow_lit _ #[] 0 (Nat.le_refl _) (Nat.zero_le _) rfl, inn_nil _ _ _, (Below.refl _ _).alloc (Nat.le_refl _) _⟩
  case round =>
    obtain ⟨k, hk, rfl, hv, rs, hrs, hown, hin, hb⟩ := hrel
    have hsz := hb.size
    by_cases hlt : k < n
    · have hlt' : (k : Int) < (n : Int) := by omega
      have O := owni_less (owni_lit wr #[.int .i64 0, .int .i64 0] [0, 0] rfl (by unfold maxLen; simp)) hsz
      have IN := inn_push (hi' := wr.heap.size + 1) (inn_below hin ((Below.refl wr.heap.size wr).alloc (Nat.le_refl _) (.cells #[.int .i64 0, .int .i64 0] 2)) (Nat.le_refl _)) O (Nat.le_refl _) (Nat.lt_succ_self _)
      have HI : Hid _ := IN
      have HO := World.ownsRow.alloc hown (.cells #[.int .i64 0, .int .i64 0] 2)
      have HB : Hid _ := hb
      have HP : Hid _ := hrs
      clear O IN hin hb hrs
      go_wp2_with (at_builtin; refine wpList_append_own _ rfl _ _ 22 rfl w.heap.size 38 i0 (.slice none 0 0) 1 24 Try.underlying22 hi0 hz0 hz1 hz2 rfl (by decide) _ _ _ rfl (HO.alloc _) ⟨_, 0, none⟩ 1 1 [.slice (some ⟨wr.heap.size, 0, none⟩) 2 2] rfl rfl ?c1 ?c2 ?c3 ?c4 ?c5 ?_)
      case c1 =>
        intro j u hj
        match j, hj with
        | 0, hj => simp at hj; subst hj; simp [Addr.add]
      case c2 => intro u hu; simp at hu; subst hu; rfl
      case c3 => unfold maxLen; omega
      case c4 => omega
      case c5 => simp; omega
      · intro v' w1 hown' hgrow hnil
        have hv' : v' ≠ .slice none 0 0 := hnil
        have AO := app_own (rs := rs) (g := wr.heap.size) (c := 2) (xs := [0, 0]) (HO.alloc _) (inn_mono (inn_below HI.out ((Below.refl _ _).alloc (Nat.le_refl _) _) (by simp)) (by simp)) hown' hgrow
        have HA : Hid _ := AO
        have BB := ((HB.out.alloc hsz (.cells #[.int .i64 0, .int .i64 0] 2)).alloc (by simp; omega) _).grown hgrow (by simp; omega) (fun j hj => (hown.lt j hj).1)
        have HQ : Hid _ := rep_push (g := wr.heap.size) (c := 2) HP.out
        clear hown' hgrow hown hnil AO
        go_wp2
        go_roundw
        case rel => exact ⟨k + 1, by omega, by go_num, hv', _, HQ.out, HA.out.1, HA.out.2, BB⟩
        case measure => simp [intOf]; omega
    · have hkl : k = n := by omega
      subst hkl
      obtain ⟨g, cap, rfl, hg1, hg2⟩ := shape_of hown hv
      have MM : MadeM w wr (.slice (some ⟨g, 0, none⟩) k cap) (List.replicate k [0, 0]) := ⟨g, cap, by rw [List.length_replicate], hg1, hg2, ⟨rs, hrs, by rw [List.length_replicate]; exact hown, hg2, hin⟩, hb⟩
      clear hown hin hb
      go_wp2
      go_ret
      exact ⟨_, rfl, MM⟩

end Go.Proofs.Ytcnnojfkpkmdmaa
