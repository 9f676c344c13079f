/- The contracts of NewMemory, ReadLine and WriteLine, of the specification. Conditions: lengths that a machine can hold. -/
import Derived.Test.YteepmhcpjjgihaaMems9
namespace Go.Proofs.Yteepmhcpjjgihaa
open Go.ChangeShapes Go.WideShapes Go.ChangeAt Go.RowKit

set_option maxHeartbeats 400000 in
theorem specNewMemory_any (n : Int) (w : World) :
    Calls Try.prog 19 #[.int .i64 n] w fun e w' => ∃ v, e = .returned v ∧ MadeM w w' v (newM n) := by
  cases hn : betw n 1 16
  · have HN : newM n = [] := by unfold newM; rw [hn]; rfl
    rw [HN]
    go_enter Try.func19, Try.ntmps19
    go_wp2_with (go_at_call 45; refine (l1In_any _ _ _ _).mono ?_; rintro e w' ⟨rfl, rfl⟩)
    go_ret
    exact ⟨_, rfl, madeM_none _ _ rfl⟩
  · obtain ⟨j, rfl, hj⟩ : ∃ j : Nat, n = j ∧ j ≤ 16 := by simp [betw] at hn; exact ⟨n.toNat, by omega, by omega⟩
    have HN : newM (j : Int) = List.replicate j [0, 0] := by unfold newM; rw [hn]; rfl
    rw [HN]
    clear HN
    go_enter Try.func19, Try.ntmps19
    go_wp2_with (first
      | (go_at_call 45; refine (l1In_any _ _ _ _).mono ?_; rintro e w' ⟨rfl, hw'⟩; rw [hw']; clear hw' w')
      | (go_at_call 50; refine (l4New_any j _ (by omega)).mono ?_; rintro e w2 ⟨v, rfl, mm⟩))
    go_ret
    exact ⟨_, rfl, mm⟩

theorem copy_push {xss : List (List Int)} {rs : List Rw} {k g c : Nat} {xs : List Int} (h : rs.map Rw.xs = xss.take k) (hx : xss[k]? = some xs) : (rs ++ [(⟨g, c, xs⟩ : Rw)]).map Rw.xs = xss.take (k + 1) := take_push h hx

set_option maxHeartbeats 1000000 in
theorem l4Copy_any (a : Option Addr) (xss : List (List Int)) (cap : Nat) (w : World) (h : ReadsM w a xss) (hk : memOk xss = true) :
    Calls Try.prog 43 #[.slice a xss.length cap] w fun e w' => ∃ v, e = .returned v ∧ MadeM w w' v xss := by
  obtain ⟨i0, hi0, hz0, hz1, hz2⟩ := info_parts Try.infoS
  have hl := memOk_len hk
  go_enter Try.func43, Try.ntmps43
  go_wp2
  go_loopw [3, 4] (fun v i wr => ∃ k : Nat, k ≤ xss.length ∧ i = .int .i64 k ∧ v ≠ .slice none 0 0 ∧ ∃ rs : List Rw, rs.map Rw.xs = xss.take k ∧ wr.ownsRow w.heap.size 25 1 v k (rs.map Rw.v) ∧ Inn w.heap.size wr.heap.size wr rs ∧ Below w.heap.size w wr)
    (fun _ i _ => xss.length - (intOf i).toNat)
  case atStart => exact ⟨0, by omega, rfl, by simp, [], rfl, World.ownsRow_lit _ #[] 0 (Nat.le_refl _) (Nat.zero_le _) rfl, inn_nil _ _ _, (Below.refl _ _).alloc (Nat.le_refl _) _⟩
  case round =>
    obtain ⟨k, hk', rfl, hv, rs, hrs, hown, hin, hb⟩ := hrel
    have hsz := hb.size
    by_cases hlt : k < xss.length
    · have hlt' : (k : Int) < (xss.length : Int) := by omega
      obtain ⟨xs, hx⟩ := get_of_lt hlt
      obtain ⟨b, off, aj, cj, rfl, g1, hr⟩ := readsM_at (readsM_below h hb) hx
      rcases isL_cases xs with hn | ⟨x, y, rfl, hx1, hy1⟩
      · rw [memOk_get hk hx] at hn; cases hn
      obtain ⟨b', off', rfl, _, _⟩ := reads_two hr
      have HR : Hid (Reads wr (some ⟨b', off', none⟩) [x, y]) := hr
      have HP : Hid (∀ g c, _) := fun g c => copy_push (g := g) (c := c) hrs hx
      have HI : Hid _ := hin
      have HB : Hid _ := hb
      clear h hx hr hrs hin hb
      go_wp2_with fail
      refine (l1Copy_any _ [x, y] _ _ HR.out (by simp)).mono ?_
      rintro e w1 ⟨v1, rfl, g, c, rfl, l1, l1', o1, b1⟩
      have ho1 := shape_of hown hv
      obtain ⟨G, cG, rfl, hG1, hG2⟩ := ho1
      have own1 := own_below hown b1 hG2
      have HIN : Hid _ := inn_push (inn_below HI.out b1 (Nat.le_refl _)) (owni_less o1 hsz) l1 l1'
      have HB1 : Hid _ := below_step HB.out b1
      have hsz1 : w.heap.size ≤ w1.heap.size := Nat.le_trans hsz b1.size
      clear HI HB b1 o1 hown HR g1
      go_wp2_with (at_builtin; refine wpList_append_own _ rfl _ _ 24 rfl w.heap.size 25 i0 (.slice none 0 0) 1 24 Try.underlying24 hi0 hz0 hz1 hz2 rfl (by decide) _ _ _ rfl (World.ownsRow.alloc own1 _) ⟨_, 0, none⟩ 1 1 [.slice (some ⟨g, 0, none⟩) 2 c] rfl rfl ?c1 ?c2 ?c3 ?c4 ?c5 ?_)
      case c1 =>
        intro j u hj
        match j, hj with
        | 0, hj => simp at hj; subst hj; simp [Addr.add]
      case c2 => intro u hu; simp at hu; subst hu; rfl
      case c3 => unfold maxLen; omega
      case c4 => omega
      case c5 => simp; omega
      · intro v' w2 hown' hgrow hnil
        have hv' : v' ≠ .slice none 0 0 := hnil
        have AO := app_own (rs := rs) (g := g) (c := c) (xs := [x, y]) (World.ownsRow.alloc own1 _) (inn_mono (inn_below HIN.out ((Below.refl _ _).alloc (Nat.le_refl _) _) (by simp)) (by simp)) hown' hgrow
        have HA : Hid _ := AO
        have BB := (HB1.out.alloc hsz1 _).grown hgrow (by simp; omega) (fun j hj => (own1.lt j hj).1)
        clear hown' hgrow own1 hnil AO
        go_wp2
        go_roundw
        case rel => exact ⟨k + 1, by omega, by go_num, hv', _, HP.out g c, HA.out.1, HA.out.2, BB⟩
        case measure => simp [intOf]; omega
    · have hkl : k = xss.length := by omega
      subst hkl
      rw [List.take_length] at hrs
      obtain ⟨g, cap, rfl, hg1, hg2⟩ := shape_of hown hv
      have MM : MadeM w wr (.slice (some ⟨g, 0, none⟩) xss.length cap) xss := ⟨g, cap, rfl, hg1, hg2, ⟨rs, hrs, hown, hg2, hin⟩, hb⟩
      clear hown hin hb
      go_wp2
      go_ret
      exact ⟨_, rfl, MM⟩

theorem readL_at {xss : List (List Int)} {j : Nat} {xs : List Int} (hk : memOk xss = true) (hb : betw (j : Int) 0 ((xss.length : Int) - 1) = true) (hx : xss[j]? = some xs) : readL xss j = xs := by
  unfold readL
  rw [hk, hb]
  simp [List.getD_eq_getElem?_getD, hx]

set_option maxHeartbeats 1000000 in
theorem specReadLine_any (a : Option Addr) (xss : List (List Int)) (cap : Nat) (k : Int) (w : World) (h : ReadsM w a xss) (hm : xss.length ≤ 2305843009213693952) :
    Calls Try.prog 17 #[.slice a xss.length cap, .int .i64 k] w fun e w' => ∃ v, e = .returned v ∧ Made w w' v (readL xss k) := by
  cases hk : memOk xss
  · have HN : readL xss k = [] := by unfold readL; rw [hk]; rfl
    rw [HN]
    go_enter Try.func17, Try.ntmps17
    go_wp2_with (go_at_call 21; refine (specMemoryOk_any _ xss _ _ h hm).mono ?_; rintro e w' ⟨rfl, hw'⟩; rw [hw', hk]; clear hw' w')
    go_ret
    exact ⟨_, rfl, made_none _ _ rfl⟩
  · cases hb : betw k 0 ((xss.length : Int) - 1)
    · have HN : readL xss k = [] := by unfold readL; rw [hk, hb]; rfl
      rw [HN]
      have hout : k < 0 ∨ (0 ≤ k ∧ (xss.length : Int) ≤ k) := by simp [betw] at hb; omega
      clear HN hb
      rcases hout with h0 | ⟨h0, h1⟩
      · go_enter Try.func17, Try.ntmps17
        go_wp2_with (go_at_call 21; refine (specMemoryOk_any _ xss _ _ h hm).mono ?_; rintro e w' ⟨rfl, hw'⟩; rw [hw', hk]; clear hw' w')
        go_ret
        exact ⟨_, rfl, made_none _ _ rfl⟩
      · have h0' : ¬ k < 0 := by omega
        go_enter Try.func17, Try.ntmps17
        go_wp2_with (go_at_call 21; refine (specMemoryOk_any _ xss _ _ h hm).mono ?_; rintro e w' ⟨rfl, hw'⟩; rw [hw', hk]; clear hw' w')
        go_ret
        exact ⟨_, rfl, made_none _ _ rfl⟩
    · obtain ⟨j, rfl, hj⟩ := betw_nat hb
      obtain ⟨xs, hx⟩ := get_of_lt hj
      obtain ⟨b, off, aj, cj, rfl, g1, hr⟩ := readsM_at h hx
      rcases isL_cases xs with hn | ⟨x, y, rfl, hx1, hy1⟩
      · rw [memOk_get hk hx] at hn; cases hn
      obtain ⟨b', off', rfl, _, _⟩ := reads_two hr
      rw [readL_at hk hb hx]
      have HR : Hid (Reads w (some ⟨b', off', none⟩) [x, y]) := hr
      have HH : Hid (ReadsM w (some ⟨b, off, none⟩) xss) := h
      have hj' : (j : Int) < (xss.length : Int) := by omega
      clear hx hr hb h
      go_enter Try.func17, Try.ntmps17
      go_wp2_with (first
        | (go_at_call 21; refine (specMemoryOk_any _ xss _ _ HH.out hm).mono ?_; rintro e w' ⟨rfl, hw'⟩; rw [hw', hk]; clear hw' w')
        | (go_at_call 47; refine (l1Copy_any _ [x, y] _ _ HR.out (by simp)).mono ?_; rintro e w1 ⟨v1, rfl, mm⟩))
      go_ret
      exact ⟨_, rfl, mm⟩

end Go.Proofs.Yteepmhcpjjgihaa
