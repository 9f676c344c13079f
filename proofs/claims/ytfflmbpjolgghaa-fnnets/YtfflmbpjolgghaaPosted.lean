/- All letters of a net are put into a post, as copies. Conditions: a net that reads as told, of a length that a machine can hold. -/
import Derived.Test.YtfflmbpjolgghaaAdds
namespace Go.Proofs.Ytfflmbpjolgghaa
open Go.ChangeShapes Go.WideShapes Go.ChangeAt Go.RowKit
set_option linter.unusedVariables false

/-- The cells of the letters' messages, one behind the other. -/
def flatL (ls : List LetD) : List Value := (ls.map (·.2)).flatten
theorem flatL_push (ls : List LetD) (x : LetD) : flatL (ls ++ [x]) = flatL ls ++ x.2 := by simp [flatL]
/-- A post that holds the letters xs, each with its own memory, numbered as they stand. -/
structure PostB (w wr : World) (pb : Nat) (S T : Foot) (v : Value) (ls : List LetD) (xs : List MsgD) : Prop where
  row : wr.heap[pb]? = some (.cells #[v] 83 (0, 0))
  own : postR.own wr S [v] ls
  bag : lown msgR wr T (flatL ls) xs
  dis : Dis S T
  sp : ¬ S pb
  tp : ¬ T pb
  sl : ∀ k, S k → w.heap.size ≤ k ∧ k < wr.heap.size
  tl : ∀ k, T k → w.heap.size ≤ k ∧ k < wr.heap.size
  pl : w.heap.size ≤ pb
  below : Below w.heap.size w wr
  num : ∀ (i : Nat) (y : LetD), ls[i]? = some y → y.1 = (i : Int)
  sh : ∀ u ∈ ls, MsgC u.2
  len : ls.length = xs.length
theorem postB_next {w wr w' : World} {pb : Nat} {S T : Foot} {v : Value} {ls : List LetD} {xs : List MsgD} (h : PostB w wr pb S T v ls xs) (hb : Below wr.heap.size wr w') : PostB w w' pb S T v ls xs :=
  ⟨row_keep hb h.row, postR.own_keep h.own (keeps_below hb), lown_keep h.bag (keeps_below hb), h.dis, h.sp, h.tp, fun k hk => ⟨(h.sl k hk).1, Nat.lt_of_lt_of_le (h.sl k hk).2 hb.size⟩, fun k hk => ⟨(h.tl k hk).1, Nat.lt_of_lt_of_le (h.tl k hk).2 hb.size⟩, h.pl, below_step h.below hb, h.num, h.sh, h.len⟩
theorem postB_add {w wr w' : World} {pb : Nat} {S T : Foot} {v : Value} {ls : List LetD} {xs : List MsgD} {f0 f1 f2 f3 f4 f6 : Int} {d : List Int} {e : Ending} (h : PostB w wr pb S T v ls xs) (ha : AddP pb S ls f0 f1 f2 f3 f4 d f6 wr e w') :
    ∃ S' T' v' ls', PostB w w' pb S' T' v' ls' (xs ++ [(f0, f1, f2, f3, f4, d, f6)]) := by
  obtain ⟨-, v', av, cv, c, k1, c1, c2, k2, k3, k4⟩ := ha
  have hpl := (Array.getElem?_eq_some_iff.1 h.row).1
  have hbs := h.below.size
  refine ⟨_, (fun k => T k ∨ rng wr.heap.size c k), v', _, k1, k2, ?_, ?_, ?_, ?_, ?_, ?_, h.pl, ?_, ?_, ?_, ?_⟩
  · rw [flatL_push]
    refine lown_push (lown_keep h.bag (k4.keeps ?_)) k3 ?_ (fun k hk => .inl hk) (fun k hk => .inr hk)
    · rintro k hk (hx | hx)
      · exact h.dis k hx.1 hk
      · subst hx
        exact h.tp hk
    · intro k hk hx
      have := (h.tl k hk).2
      have := hx.1
      omega
  · rintro k (hk | hk) (hx | hx)
    · exact h.dis k hk.1 hx
    · have := hk.2
      have := hx.1
      omega
    · have := (h.tl k hx).2
      omega
    · have := hx.2
      omega
  · rintro (hx | hx)
    · exact h.sp hx.1
    · omega
  · rintro (hx | hx)
    · exact h.tp hx
    · have := hx.1
      omega
  · rintro k (hk | hk)
    · have := h.sl k hk.1
      exact ⟨this.1, by omega⟩
    · exact ⟨by omega, hk.2⟩
  · rintro k (hk | hk)
    · have := h.tl k hk
      exact ⟨this.1, by omega⟩
    · exact ⟨by have := hk.1; omega, by have := hk.2; omega⟩
  · refine k4.below h.below (fun k hk => ?_) h.below.size
    rcases hk with hk | hk
    · exact (h.sl k hk.1).1
    · rw [hk]
      exact h.pl
  · intro i y hy
    by_cases hi : i < ls.length
    · rw [List.getElem?_append_left hi] at hy
      exact h.num i y hy
    · rw [List.getElem?_append_right (by omega)] at hy
      have h0 : i - ls.length = 0 := by
        have := (List.getElem?_eq_some_iff.1 hy).1
        simp at this
        omega
      rw [h0] at hy
      cases hy
      show (ls.length : Int) = _
      omega
  · intro u hu
    rcases List.mem_append.1 hu with hu | hu
    · exact h.sh u hu
    · simp at hu
      subst hu
      exact ⟨_, _, _, _, _, _, _, _, _, rfl⟩
  · simp [h.len]

set_option maxRecDepth 20000 in
set_option maxHeartbeats 8000000 in
theorem posted_any (a : Option Addr) (xs : List MsgD) (cap : Nat) (w : World) (h : SlRd msgR w a xs) (hm : xs.length ≤ 900) (hd : ∀ u ∈ xs, u.2.2.2.2.2.1.length ≤ 1048576) :
    Calls Try.prog 38 #[.slice a xs.length cap] w fun e w' => ∃ pb S T v ls, e = .returned (.pointer (some ⟨pb, 0, none⟩)) ∧ PostB w w' pb S T v ls xs := by
  have H0 : Hid (∀ W, Below w.heap.size w W → SlRd msgR W a xs) := fun W hb => slrd_keep h fun k hk => hb.block k hk
  have HD : Hid _ := hd
  have hm' : xs.length ≤ 9223372036854775807 := by omega
  clear h hd
  have Y := heap_on (.cells #[.slice (some ⟨w.heap.size, 0, none⟩) 0 0] 83) (heap_at w (.cells #[] 88))
  have Z := heap_at (w.alloc (.cells #[] 88)) (.cells #[.slice (some ⟨w.heap.size, 0, none⟩) 0 0] 83)
  rw [alloc_len] at Z
  have B := below_step (box_below w (.cells #[] 88)) (box_below _ (.cells #[.slice (some ⟨w.heap.size, 0, none⟩) 0 0] 83))
  have e3 : ((w.alloc (.cells #[] 88)).alloc (.cells #[.slice (some ⟨w.heap.size, 0, none⟩) 0 0] 83)).heap.size = w.heap.size + 2 := by simp
  go_enter Try.func38, Try.ntmps38
  go_wp2
  generalize (w.alloc (.cells #[] 88)).alloc (.cells #[.slice (some ⟨w.heap.size, 0, none⟩) 0 0] 83) = W0 at Y Z B e3 ⊢
  have I0 : PostB w W0 (w.heap.size + 1) (fun k => k = w.heap.size) (fun _ => False) (.slice (some ⟨w.heap.size, 0, none⟩) 0 0) [] [] := by
    refine ⟨Z, ⟨_, [], fun _ => False, rfl, ⟨rfl, .inr ⟨w.heap.size, 0, #[], rfl, Nat.zero_le _, Y, Nat.le_refl _, by unfold maxLen; omega, rfl, rfl⟩⟩, fun g hg => ?_, fun _ h => h.elim, rfl⟩, rfl, fun _ _ h => h, by omega, fun h => h, fun k hk => by subst hk; omega, fun _ h => h.elim, by omega, B, by simp, by simp, rfl⟩
    simp [Value.ownBlock] at hg
    subst hg
    exact ⟨rfl, fun h => h⟩
  clear Y Z B e3
  go_loopw [10] (fun i wr => ∃ k : Nat, k ≤ xs.length ∧ i = .int .i64 k ∧ ∃ S T v ls, PostB w wr (w.heap.size + 1) S T v ls (xs.take k)) (fun i _ => xs.length - (intOf i).toNat)
  case atStart => exact ⟨0, Nat.zero_le _, rfl, _, _, _, _, I0⟩
  case round =>
    clear I0
    obtain ⟨k, hk, rfl, S, T, v, ls, I⟩ := hrel
    by_cases hlt : k < xs.length
    · have hlt' : (k : Int) < (xs.length : Int) := by omega
      obtain ⟨x, hx⟩ : ∃ x, xs[k]? = some x := ⟨_, List.getElem?_eq_getElem hlt⟩
      obtain ⟨b, off, cs, rfl, hrd, hcell⟩ := slrd_at (H0.out _ I.below) hx
      obtain ⟨ad, cpw, rfl, i0, i1, i2, i3, i4, i6, hd1, hd2, hd3⟩ := msg_rd hrd
      have x0 := hcell 0 _ rfl
      have x1 := hcell 1 _ rfl
      have x2 := hcell 2 _ rfl
      have x3 := hcell 3 _ rfl
      have x4 := hcell 4 _ rfl
      have x5 := hcell 5 _ rfl
      have x6 := hcell 6 _ rfl
      rw [show off + (k * msgR.size + 0) = off + k * 7 from rfl] at x0
      rw [show off + (k * msgR.size + 1) = off + k * 7 + 1 from rfl] at x1
      rw [show off + (k * msgR.size + 2) = off + k * 7 + 2 from rfl] at x2
      rw [show off + (k * msgR.size + 3) = off + k * 7 + 3 from rfl] at x3
      rw [show off + (k * msgR.size + 4) = off + k * 7 + 4 from rfl] at x4
      rw [show off + (k * msgR.size + 5) = off + k * 7 + 5 from rfl] at x5
      rw [show off + (k * msgR.size + 6) = off + k * 7 + 6 from rfl] at x6
      have HTK : Hid (xs.take k ++ [x] = xs.take (k + 1)) := by unfold Hid; rw [List.take_add_one, hx]; rfl
      have BX := box_below wr (.cells #[.int .i64 x.1, .int .i64 x.2.1, .int .i64 x.2.2.1, .int .i64 x.2.2.2.1, .int .i64 x.2.2.2.2.1, .slice ad x.2.2.2.2.2.1.length cpw, .int .i64 x.2.2.2.2.2.2] 27)
      have I1 := postB_next I BX
      have hll : ls.length ≤ 999 := by
        have := I.len
        rw [List.length_take] at this
        omega
      have HA := postAdd_any (w.heap.size + 1) S v ls x.1 x.2.1 x.2.2.1 x.2.2.2.1 x.2.2.2.2.1 x.2.2.2.2.2.2 x.2.2.2.2.2.1 ad cpw _ I1.row I1.sp I1.own hll (fun i y hy => by have := I1.num i y hy; have := (List.getElem?_eq_some_iff.1 hy).1; omega) i0 i1 i2 i3 i4 i6 (slrd_next hd3 BX) (HD.out x (List.mem_of_getElem? hx))
      have HI : Hid _ := I1
      clear hcell hrd hd1 hd2 hd3 i0 i1 i2 i3 i4 i6 hx I I1 BX
      go_wp2_with fail
      refine HA.mono ?_
      intro e w5 AP
      have hre : e = .returned (.tuple #[]) := AP.1
      subst hre
      obtain ⟨S', T', v', ls', NB⟩ := postB_add HI.out AP
      have e5 : (x.1, x.2.1, x.2.2.1, x.2.2.2.1, x.2.2.2.2.1, x.2.2.2.2.2.1, x.2.2.2.2.2.2) = x := rfl
      rw [e5, HTK.out] at NB
      have HNB : Hid _ := NB
      clear NB AP HI HA x0 x1 x2 x3 x4 x5 x6 e5
      go_wp2
      go_roundw
      case rel => exact ⟨k + 1, by omega, by go_num, S', T', v', ls', HNB.out⟩
      case measure => simp [intOf]; omega
    · have hkn : k = xs.length := by omega
      subst hkn
      rw [List.take_length] at I
      have HI : Hid _ := I
      clear I
      go_wp2
      go_ret
      exact ⟨_, S, T, v, ls, rfl, HI.out⟩
end Go.Proofs.Ytfflmbpjolgghaa
