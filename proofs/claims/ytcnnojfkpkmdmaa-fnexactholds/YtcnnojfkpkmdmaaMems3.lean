
/- The contract of the laws' copy of a list of lists: new memory, all of it; and how a row of slices is filled one by one. Conditions: at most 2^20 lists of at most 2^20 numbers together. -/
import Derived.Test.YtcnnojfkpkmdmaaMems2
namespace Go.Proofs.Ytcnnojfkpkmdmaa
open Go.ChangeShapes Go.WideShapes Go.ChangeAt Go.RowKit

theorem Try.infoS : (Try.prog.info? 38).map (fun i => (i.zero, i.size, i.bytes)) = some (some (.slice none 0 0), 1, 24) := by kernel_rfl

theorem owni_less {B B' g cap : Nat} {w : World} {zs : List Int} (h : OwnI B w g cap zs) (hb : B' ≤ B) : OwnI B' w g cap zs := own_mono h hb

theorem set_step (l ys : List Value) (v : Value) (k : Nat) (hl : l.length = k) (h2 : k < ys.length) : (l ++ ys.drop k).set k v = (l ++ [v]) ++ ys.drop (k + 1) := by
  rw [List.set_append_right _ _ (by omega), hl, Nat.sub_self, List.drop_eq_getElem_cons h2]
  simp only [List.set_cons_zero, List.append_assoc, List.cons_append, List.nil_append]

theorem fill_step {w wr w1 : World} {k n : Nat} {rs : List Rw} {v : Value} {xs : List Int} {ys : List Value} (hk : rs.length = k) (hkn : k < n) (hys : ys.length = n)
    (ho : Out w.heap.size wr w.heap.size n n (rs.map Rw.v ++ ys.drop k)) (hin : Inn w.heap.size wr.heap.size wr rs) (hb : Below w.heap.size w wr) (hm : Made wr w1 v xs) :
    ∃ g c, v = .slice (some ⟨g, 0, none⟩) xs.length c ∧ (∃ v0, w1.cell? ⟨w.heap.size, k, none⟩ = some v0) ∧ w1.frozen? ⟨w.heap.size, k, none⟩ = false ∧
      Out w.heap.size (w1.setCell ⟨w.heap.size, k, none⟩ (.slice (some ⟨g, 0, none⟩) xs.length c)) w.heap.size n n ((rs ++ [(⟨g, c, xs⟩ : Rw)]).map Rw.v ++ ys.drop (k + 1)) ∧
      Inn w.heap.size (w1.setCell ⟨w.heap.size, k, none⟩ (.slice (some ⟨g, 0, none⟩) xs.length c)).heap.size (w1.setCell ⟨w.heap.size, k, none⟩ (.slice (some ⟨g, 0, none⟩) xs.length c)) (rs ++ [(⟨g, c, xs⟩ : Rw)]) ∧
      Below w.heap.size w (w1.setCell ⟨w.heap.size, k, none⟩ (.slice (some ⟨g, 0, none⟩) xs.length c)) := by
  obtain ⟨g, c, rfl, l1, l2, o1, b1⟩ := hm
  have hs := hb.size
  have hG := own_lt ho
  have ho1 : Out w.heap.size w1 w.heap.size n n (rs.map Rw.v ++ ys.drop k) := own_block ho (b1.block _ hG.2)
  have hi1 := inn_push (inn_below hin b1 (Nat.le_refl _)) (owni_less o1 hs) l1 l2
  have R := World.ownsRow.stored ho1 k (.slice (some ⟨g, 0, none⟩) xs.length c)
  rw [set_step _ _ _ k (by simpa using hk) (by omega)] at R
  refine ⟨g, c, rfl, ?_, World.ownsRow.frozenAt ho1 k, ?_, ?_, (below_step hb b1).grown R.2 (Nat.le_trans hs b1.size) (by intro j hj; cases hj; exact Nat.le_refl _)⟩
  · rw [World.ownsRow.cellAt ho1 k (by omega)]
    exact ⟨_, List.getElem?_eq_getElem (by have := ho1.1; omega)⟩
  · have := R.1
    rw [List.map_append]
    exact this
  · exact inn_mono (inn_out hi1 ho1 R.2) R.2.size

theorem fill_end {w wr : World} {n : Nat} {rs : List Rw} {xss : List (List Int)} {ys : List Value} (hx : rs.map Rw.xs = xss) (hn : xss.length = n) (hys : ys.length = n)
    (ho : Out w.heap.size wr w.heap.size n n (rs.map Rw.v ++ ys.drop n)) (hin : Inn w.heap.size wr.heap.size wr rs) (hb : Below w.heap.size w wr) : MadeM w wr (.slice (some ⟨w.heap.size, 0, none⟩) xss.length n) xss := by
  rw [List.drop_of_length_le (by omega), List.append_nil] at ho
  exact ⟨_, _, rfl, Nat.le_refl _, (own_lt ho).2, ⟨rs, hx, by rw [hn]; exact ho, (own_lt ho).2, hin⟩, hb⟩

theorem take_push {xss : List (List Int)} {rs : List Rw} {k g c : Nat} {xs : List Int} (h : rs.map Rw.xs = xss.take k) (hx : xss[k]? = some xs) : (rs ++ [(⟨g, c, xs⟩ : Rw)]).map Rw.xs = xss.take (k + 1) := by
  rw [List.map_append, h, List.take_add_one, hx]
  rfl
theorem len_take {xss : List (List Int)} {rs : List Rw} {k : Nat} (h : rs.map Rw.xs = xss.take k) (hk : k ≤ xss.length) : rs.length = k := by
  have := congrArg List.length h
  simp at this
  omega

theorem out_made (w : World) (n : Nat) (hn : n ≤ maxLen) : Out w.heap.size (w.alloc (.cells (madeCells #[.slice none 0 0] n) 38)) w.heap.size n n (madeCells #[.slice none 0 0] n).toList :=
  World.ownsRow_lit (base := w.heap.size) (e := 38) (size := 1) w (madeCells #[.slice none 0 0] n) n (Nat.le_refl _) hn (by simp [size_madeCells])

set_option maxHeartbeats 1000000 in
theorem toRows_any (a : Option Addr) (xss : List (List Int)) (cap : Nat) (w : World) (h : ReadsM w a xss) (hm : xss.length ≤ 1048576) (hm2 : tot xss ≤ 1048576) :
    Calls Try.prog 24 #[.slice a xss.length cap] w fun e w' => ∃ v, e = .returned v ∧ MadeM w w' v xss := by
  have hmk := Go.run_make_row' (P := Try.prog) 22 38 (.slice none 0 0) 24 Try.underlying22 Try.infoS rfl .i64 .i64 xss.length (by omega) (by omega)
  go_enter Try.func24, Try.ntmps24
  go_wp2
  go_loopw [4] (fun i wr => ∃ k : Nat, k ≤ xss.length ∧ i = .int .i64 k ∧ ∃ rs : List Rw, rs.map Rw.xs = xss.take k ∧ Out w.heap.size wr w.heap.size xss.length xss.length (rs.map Rw.v ++ (madeCells #[.slice none 0 0] xss.length).toList.drop k) ∧ Inn w.heap.size wr.heap.size wr rs ∧ Below w.heap.size w wr)
    (fun i _ => xss.length - (intOf i).toNat)
  case atStart => exact ⟨0, Nat.zero_le _, rfl, [], rfl, by simpa using out_made w xss.length (by unfold maxLen; omega), inn_nil _ _ _, (Below.refl _ _).alloc (Nat.le_refl _) _⟩
  case round =>
    obtain ⟨k, hk, rfl, rs, hrs, ho, hi, hb⟩ := hrel
    by_cases hlt : k < xss.length
    · have hlt' : (k : Int) < (xss.length : Int) := by omega
      obtain ⟨xs, hx⟩ := get_of_lt hlt
      obtain ⟨b, off, aj, cj, rfl, g1, hr⟩ := readsM_at (readsM_below h hb) hx
      have hx1 := tot_get hx
      have hkl := len_take hrs hk
      have FS : Hid (∀ w1 v, Made wr w1 v xs → _) := fun w1 v hm => fill_step (v := v) (w1 := w1) hkl hlt (by simp [size_madeCells]) ho hi hb hm
      have HP : Hid (∀ g c, _) := fun g c => take_push (g := g) (c := c) hrs hx
      have HR : Hid (Reads wr aj xs) := hr
      clear h hx hr ho hi hb hrs hmk
      go_wp2_with (go_at_call 46; refine (toInts_any _ xs _ _ HR.out (by omega)).mono ?_; rintro e w1 ⟨v, rfl, mm⟩; obtain ⟨g, c, rfl, ⟨v0, hv0⟩, hfz, F1, F2, F3⟩ := FS.out _ _ mm; have HF1 : Hid _ := F1; have HF2 : Hid _ := F2; have HF3 : Hid _ := F3; clear F1 F2 F3 mm)
      go_roundw
      case rel => exact ⟨k + 1, by omega, by go_num, _, HP.out g c, HF1.out, HF2.out, HF3.out⟩
      case measure => simp [intOf]; omega
    · have hkl : k = xss.length := by omega
      subst hkl
      rw [List.take_length] at hrs
      have FE := fill_end hrs rfl (by simp [size_madeCells]) ho hi hb
      clear ho hi hb
      go_wp2
      go_ret
      exact ⟨_, rfl, FE⟩

end Go.Proofs.Ytcnnojfkpkmdmaa
