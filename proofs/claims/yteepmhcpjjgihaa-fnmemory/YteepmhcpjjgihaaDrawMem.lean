/- The contract of the draw of a memory: some list of at most 17 lists of at most three numbers is drawn, in new memory, and of what was there only the cursor turns. Conditions: the bytes are at most 2^61. -/
import Derived.Test.YteepmhcpjjgihaaMemsB
import Derived.Test.YteepmhcpjjgihaaDrawLine
import Derived.Test.YteepmhcpjjgihaaDrawLine2
namespace Go.Proofs.Yteepmhcpjjgihaa
open Go.ChangeShapes Go.WideShapes Go.ChangeAt Go.RowKit

structure StM (B g : Nat) (w wr : World) (G cap : Nat) (xss : List (List Int)) : Prop where
  own : OwnM w.heap.size wr.heap.size wr G cap xss
  cur : Cur B wr g
  gr : w.grownBy wr (some g)
  len : xss.length ≤ 17
  rows : ∀ xs ∈ xss, xs.length ≤ 3

theorem StM.draw {B g G cap : Nat} {w wr w2 : World} {xss : List (List Int)} (h : StM B g w wr G cap xss) (hgw : g < w.heap.size) (hc : Cur B w2 g) (hg : wr.grownBy w2 (some g)) : StM B g w w2 G cap xss :=
  ⟨ownM_mono (ownM_grown h.own hg (.inl hgw)) hg.size, hc, grown_trans h.gr hg, h.len, h.rows⟩

theorem cur_below {B g : Nat} {w w2 : World} (h : Cur B w g) (hb : Below w.heap.size w w2) : Cur B w2 g := by
  have := cur_lt h
  exact cur_grown h (grown_of_below hb (some w.heap.size)) (Nat.le_trans h.1 (Nat.le_of_lt this)) (by omega)

theorem StM.made {B g G cap : Nat} {w wr w2 : World} {xss yss : List (List Int)} {v : Value} (h : StM B g w wr G cap xss) (hm : MadeM wr w2 v yss) (hl : yss.length ≤ 17) (hrows : ∀ xs ∈ yss, xs.length ≤ 3) :
    ∃ G' c', v = .slice (some ⟨G', 0, none⟩) yss.length c' ∧ StM B g w w2 G' c' yss := by
  have hs := h.gr.size
  obtain ⟨G', c', rfl, h3, h4, ⟨rs, e1, e2, e3, e4⟩, h6⟩ := hm
  exact ⟨G', c', rfl, ⟨rs, e1, own_mono e2 hs, e3, ⟨fun i r hr => ⟨own_mono (e4.1 i r hr).1 hs, (e4.1 i r hr).2⟩, e4.2⟩⟩, cur_below h.cur h6, grown_trans h.gr (grown_of_below h6 _), hl, hrows⟩

theorem StM.set {B g G cap gl cl j : Nat} {w wr w2 : World} {xss : List (List Int)} {xs : List Int} (h : StM B g w wr G cap xss) (hgw : g < w.heap.size) (l : wr.heap.size ≤ gl) (o : OwnI wr.heap.size w2 gl cl xs) (hc : Cur B w2 g) (hg : wr.grownBy w2 (some g))
    (hj : j < xss.length) (hx : xs.length ≤ 3) :
    (∃ v0, w2.cell? ⟨G, j, none⟩ = some v0) ∧ w2.frozen? ⟨G, j, none⟩ = false ∧ StM B g w (w2.setCell ⟨G, j, none⟩ (.slice (some ⟨gl, 0, none⟩) xs.length cl)) G cap (xss.set j xs) := by
  have hs := h.gr.size
  have M := ownM_set (ownM_grown h.own hg (.inl hgw)) (owni_less o hs) l (owni_lt o).2 hj
  obtain ⟨h1, h2, h3, h4⟩ := M
  have hG := ownM_lt h.own
  have hcB := hc.1
  refine ⟨h1, h2, ownM_mono h3 h4.size, cur_grown hc h4 (by omega) (by omega), grown_new (grown_trans h.gr hg) h4 hG.1, by rw [List.length_set]; exact h.len, ?_⟩
  intro ys hy
  rcases List.mem_or_eq_of_mem_set hy with h' | h'
  · exact h.rows ys h'
  · rw [h']; exact hx

set_option maxHeartbeats 2000000 in
theorem l4Draw_any (B g : Nat) (w : World) (hcur : Cur B w g) :
    Calls Try.prog 33 #[.pointer (some ⟨g, 0, none⟩)] w fun e w' => ∃ G cap xss, e = .returned (.slice (some ⟨G, 0, none⟩) xss.length cap) ∧ StM B g w w' G cap xss := by
  obtain ⟨i0, hi0, hz0, hz1, hz2⟩ := info_parts Try.infoS
  have hgw := cur_lt hcur
  have hBg := hcur.1
  go_enter Try.func33, Try.ntmps33
  go_wp2_with fail
  refine (l1Below_small B g 6 _ (cur_alloc hcur _) (by omega) (by omega)).mono ?_
  rintro e w1 ⟨x, rfl, hx0, hx1, hc1, hg1⟩
  obtain ⟨n0, rfl, hn0⟩ : ∃ n0 : Nat, x = n0 ∧ n0 < 6 := ⟨x.toNat, by omega, by omega⟩
  have own1 := own_grown (World.ownsRow_lit (base := w.heap.size) (e := 25) (size := 1) w #[] 0 (Nat.le_refl _) (Nat.zero_le _) rfl) hg1 (by omega)
  have G1 : w.grownBy w1 (some g) := grown_trans (World.grownBy_alloc _ _ _) hg1
  clear hg1
  go_wp2_with fail
  go_loopw [3, 4] (fun v i wr => ∃ k : Nat, k ≤ n0 + 1 ∧ i = .int .i64 k ∧ v ≠ .slice none 0 0 ∧ ∃ rs : List Rw, rs.length + k = n0 + 1 ∧ (∀ r ∈ rs, r.xs.length ≤ 3) ∧ wr.ownsRow w.heap.size 25 1 v rs.length (rs.map Rw.v) ∧ Inn w.heap.size wr.heap.size wr rs ∧ Cur B wr g ∧ w.grownBy wr (some g))
    (fun _ i _ => (intOf i).toNat)
  case atStart => exact ⟨n0 + 1, by omega, by go_num, by simp, [], by simp, by simp, own1, inn_nil _ _ _, hc1, G1⟩
  case round =>
    obtain ⟨k, hk, rfl, hv, rs, hrs, hsm, hown, hin, hc, hg⟩ := hrel
    clear own1 G1 hc1
    have hsz := hg.size
    by_cases hlt : 0 < k
    · have hlt' : (0 : Int) < (k : Int) := by omega
      go_wp2_with fail
      refine (l3DrawLine_any B g _ hc).mono ?_
      rintro e w2 ⟨gl, x, y, rfl, l2, o2, hc2, hg2⟩
      obtain ⟨G, cG, rfl, hG1, hG2⟩ := shape_of hown hv
      have own2 := own_grown hown hg2 (by omega)
      have HIN : Hid _ := inn_push (inn_grown hin hg2 (fun i r hr => by have := (owni_lt (hin.1 i r hr).1).1; omega)) (owni_less o2 hsz) l2 (owni_lt o2).2
      have HC2 : Hid _ := hc2
      have HG2 : Hid _ := grown_trans hg hg2
      have hsz2 : w.heap.size ≤ w2.heap.size := Nat.le_trans hsz hg2.size
      clear hin hg hg2 hc hc2 o2 hown
      go_wp2_with (at_builtin; refine wpList_append_own _ rfl _ _ 24 rfl w.heap.size 25 i0 (.slice none 0 0) 1 24 Try.underlying24 hi0 hz0 hz1 hz2 rfl (by decide) _ _ _ rfl (World.ownsRow.alloc own2 _) ⟨_, 0, none⟩ 1 1 [.slice (some ⟨gl, 0, none⟩) 2 2] rfl rfl ?c1 ?c2 ?c3 ?c4 ?c5 ?_)
      case c1 =>
        intro j u hj
        match j, hj with
        | 0, hj => simp at hj; subst hj; simp [Addr.add]
      case c2 => intro u hu; simp at hu; subst hu; rfl
      case c3 => unfold maxLen; omega
      case c4 => omega
      case c5 => simp; omega
      · intro v' w3 hown' hgrow hnil
        have hv' : v' ≠ .slice none 0 0 := hnil
        have HA : Hid _ := app_own (rs := rs) (g := gl) (c := 2) (xs := [x, y]) (World.ownsRow.alloc own2 _) (inn_mono (inn_below HIN.out ((Below.refl _ _).alloc (Nat.le_refl _) _) (by simp)) (by simp)) hown' hgrow
        have C3 : Cur B w3 g := cur_grown (r := G) (cur_alloc HC2.out _) hgrow (by omega) (by omega)
        have G3 : w.grownBy w3 (some g) := grown_new (r := G) (grown_trans HG2.out (World.grownBy_alloc _ _ _)) hgrow hG1
        clear hown' hgrow own2 hnil
        go_wp2
        go_roundw
        case rel =>
          refine ⟨k - 1, by omega, by go_num, hv', rs ++ [⟨gl, 2, [x, y]⟩], by simp; omega, ?_, by simpa using HA.out.1, HA.out.2, C3, G3⟩
          intro r hr
          rcases List.mem_append.1 hr with h' | h'
          · exact hsm r h'
          · simp at h'; subst h'; simp
        case measure => simp [intOf]; omega
    · have hk0 : k = 0 := by omega
      subst hk0
      obtain ⟨G, cG, rfl, hG1, hG2⟩ := shape_of hown hv
      have hxl : (rs.map Rw.xs).length = rs.length := by simp
      have ST : StM B g w wr G cG (rs.map Rw.xs) := ⟨⟨rs, rfl, by rw [hxl]; exact hown, hG2, hin⟩, hc, hg, by rw [hxl]; omega, by
        intro xs hx
        obtain ⟨r, hr, rfl⟩ := List.mem_map.1 hx
        exact hsm r hr⟩
      have hpos : 0 < (rs.map Rw.xs).length := by rw [hxl]; omega
      rw [← hxl]
      clear hown hin hc hg hxl hsm hrs
      generalize rs.map Rw.xs = xss at ST hpos ⊢
      clear hG1 hG2 hv hk hlt hsz
      go_wp2_with fail
      refine (l1Once_small B g 10 _ ST.cur (by omega) (by omega)).mono ?_
      rintro e w2 ⟨b1, rfl, hc2, hg2⟩
      replace ST := ST.draw hgw hc2 hg2
      clear hc2 hg2
      cases b1
      · go_wp2_with fail
        refine (l1Once_small B g 20 _ ST.cur (by omega) (by omega)).mono ?_
        rintro e w4 ⟨b2, rfl, hc4, hg4⟩
        replace ST := ST.draw hgw hc4 hg4
        clear hc4 hg4 hpos
        cases b2
        · go_wp2_with fail
          refine (l1Once_small B g 30 _ ST.cur (by omega) (by omega)).mono ?_
          rintro e w6 ⟨b3, rfl, hc6, hg6⟩
          replace ST := ST.draw hgw hc6 hg6
          clear hc6 hg6
          cases b3
          · go_wp2
            go_ret
            exact ⟨_, _, _, rfl, ST⟩
          · go_wp2_with fail
            refine (l1Below_small B g 2 _ ST.cur (by omega) (by omega)).mono ?_
            rintro e w7 ⟨y, rfl, hy0, hy1, hc7, hg7⟩
            replace ST := ST.draw hgw hc7 hg7
            clear hc7 hg7
            obtain ⟨n7, hn7, hn7'⟩ : ∃ n : Nat, 16 + y = n ∧ n ≤ 17 := ⟨(16 + y).toNat, by omega, by omega⟩
            go_wp2_with fail
            refine (l4New_any n7 _ (by omega)).mono ?_
            rintro e w8 ⟨v, rfl, mm⟩
            obtain ⟨G9, c9, rfl, ST9⟩ := ST.made mm (by simpa using hn7') (by intro xs hx; rw [List.eq_of_mem_replicate hx]; simp)
            clear ST mm
            generalize List.replicate n7 [(0 : Int), 0] = zss at ST9 ⊢
            go_wp2
            go_ret
            exact ⟨_, _, _, rfl, ST9⟩
        · go_wp2_with fail
          obtain ⟨G5, c5, e5, ST5⟩ := ST.made (madeM_none _ _ rfl) (by simp) (by simp)
          simp at e5
          obtain ⟨rfl, rfl⟩ := e5
          clear ST
          refine (l1Once_small B g 30 _ ST5.cur (by omega) (by omega)).mono ?_
          rintro e w6 ⟨b3, rfl, hc6, hg6⟩
          have ST := ST5.draw hgw hc6 hg6
          clear hc6 hg6 ST5
          cases b3
          · go_wp2
            go_ret
            exact ⟨_, _, _, rfl, ST⟩
          · go_wp2_with fail
            refine (l1Below_small B g 2 _ ST.cur (by omega) (by omega)).mono ?_
            rintro e w7 ⟨y, rfl, hy0, hy1, hc7, hg7⟩
            replace ST := ST.draw hgw hc7 hg7
            clear hc7 hg7
            obtain ⟨n7, hn7, hn7'⟩ : ∃ n : Nat, 16 + y = n ∧ n ≤ 17 := ⟨(16 + y).toNat, by omega, by omega⟩
            go_wp2_with fail
            refine (l4New_any n7 _ (by omega)).mono ?_
            rintro e w8 ⟨v, rfl, mm⟩
            obtain ⟨G9, c9, rfl, ST9⟩ := ST.made mm (by simpa using hn7') (by intro xs hx; rw [List.eq_of_mem_replicate hx]; simp)
            clear ST mm
            generalize List.replicate n7 [(0 : Int), 0] = zss at ST9 ⊢
            go_wp2
            go_ret
            exact ⟨_, _, _, rfl, ST9⟩
      · go_wp2_with fail
        refine (l3DrawAny_any B g _ ST.cur).mono ?_
        rintro e w3 ⟨v, xs, rfl, hxs, gl, cl, rfl, l3, o3, hc3, hg3⟩
        obtain ⟨⟨v0, hv0⟩, hfz, S3⟩ := ST.set hgw l3 o3 hc3 hg3 hpos hxs
        have hxl : (xss.set 0 xs).length = xss.length := List.length_set
        have ST3 : Hid _ := S3
        clear S3 ST o3 hc3 hg3 l3
        go_wp2_with fail
        replace ST := ST3.out
        clear ST3 hv0 hfz
        rw [← hxl]
        generalize xss.set 0 xs = yss at ST hxl ⊢
        refine (l1Once_small B g 20 _ ST.cur (by omega) (by omega)).mono ?_
        rintro e w4 ⟨b2, rfl, hc4, hg4⟩
        replace ST := ST.draw hgw hc4 hg4
        clear hc4 hg4 hpos hxl
        cases b2
        · go_wp2_with fail
          refine (l1Once_small B g 30 _ ST.cur (by omega) (by omega)).mono ?_
          rintro e w6 ⟨b3, rfl, hc6, hg6⟩
          replace ST := ST.draw hgw hc6 hg6
          clear hc6 hg6
          cases b3
          · go_wp2
            go_ret
            exact ⟨_, _, _, rfl, ST⟩
          · go_wp2_with fail
            refine (l1Below_small B g 2 _ ST.cur (by omega) (by omega)).mono ?_
            rintro e w7 ⟨y, rfl, hy0, hy1, hc7, hg7⟩
            replace ST := ST.draw hgw hc7 hg7
            clear hc7 hg7
            obtain ⟨n7, hn7, hn7'⟩ : ∃ n : Nat, 16 + y = n ∧ n ≤ 17 := ⟨(16 + y).toNat, by omega, by omega⟩
            go_wp2_with fail
            refine (l4New_any n7 _ (by omega)).mono ?_
            rintro e w8 ⟨v, rfl, mm⟩
            obtain ⟨G9, c9, rfl, ST9⟩ := ST.made mm (by simpa using hn7') (by intro xs hx; rw [List.eq_of_mem_replicate hx]; simp)
            clear ST mm
            generalize List.replicate n7 [(0 : Int), 0] = zss at ST9 ⊢
            go_wp2
            go_ret
            exact ⟨_, _, _, rfl, ST9⟩
        · go_wp2_with fail
          obtain ⟨G5, c5, e5, ST5⟩ := ST.made (madeM_none _ _ rfl) (by simp) (by simp)
          simp at e5
          obtain ⟨rfl, rfl⟩ := e5
          clear ST
          refine (l1Once_small B g 30 _ ST5.cur (by omega) (by omega)).mono ?_
          rintro e w6 ⟨b3, rfl, hc6, hg6⟩
          have ST := ST5.draw hgw hc6 hg6
          clear hc6 hg6 ST5
          cases b3
          · go_wp2
            go_ret
            exact ⟨_, _, _, rfl, ST⟩
          · go_wp2_with fail
            refine (l1Below_small B g 2 _ ST.cur (by omega) (by omega)).mono ?_
            rintro e w7 ⟨y, rfl, hy0, hy1, hc7, hg7⟩
            replace ST := ST.draw hgw hc7 hg7
            clear hc7 hg7
            obtain ⟨n7, hn7, hn7'⟩ : ∃ n : Nat, 16 + y = n ∧ n ≤ 17 := ⟨(16 + y).toNat, by omega, by omega⟩
            go_wp2_with fail
            refine (l4New_any n7 _ (by omega)).mono ?_
            rintro e w8 ⟨v, rfl, mm⟩
            obtain ⟨G9, c9, rfl, ST9⟩ := ST.made mm (by simpa using hn7') (by intro xs hx; rw [List.eq_of_mem_replicate hx]; simp)
            clear ST mm
            generalize List.replicate n7 [(0 : Int), 0] = zss at ST9 ⊢
            go_wp2
            go_ret
            exact ⟨_, _, _, rfl, ST9⟩

end Go.Proofs.Yteepmhcpjjgihaa
