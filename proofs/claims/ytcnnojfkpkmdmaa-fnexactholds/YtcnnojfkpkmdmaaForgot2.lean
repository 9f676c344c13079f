
/- Who holds a line, and one core forgotten: Holders and Forgot of the program, Forgot of the specification. Conditions: lists of at most 2^20 numbers that read as told. -/
import Derived.Test.YtcnnojfkpkmdmaaForgot
namespace Go.Proofs.Ytcnnojfkpkmdmaa
open Go.ChangeShapes Go.WideShapes Go.ChangeAt Go.RowKit
set_option linter.unusedVariables false

theorem who_of {o s : Int} {b : Bool} {k f l m : Int} {d : List Int} (h : entB (o, s, b, k, f, l, m, d) = true) : whoB o s = true := by rw [eb] at h; exact (Bool.and_eq_true _ _ ▸ h).1
theorem cs_1 {w : World} {g b k j : Nat} {u x : Value} (hne : ¬ (b = g)) (h : w.cell? ⟨b, k, none⟩ = some u) : (w.setCell ⟨g, j, none⟩ x).cell? ⟨b, k, none⟩ = some u :=
  (World.cell?_of_block (w := w) (a := ⟨b, k, none⟩) (heap_setCell_other w ⟨g, j, none⟩ b x hne)).trans h
theorem cs8 {w : World} {g b k : Nat} {u x0 x1 x2 x3 x4 x5 x6 x7 : Value} (hne : ¬ (b = g)) (h : w.cell? ⟨b, k, none⟩ = some u) : ((((((((w.setCell ⟨g, 0, none⟩ x0).setCell ⟨g, 1, none⟩ x1).setCell ⟨g, 2, none⟩ x2).setCell ⟨g, 3, none⟩ x3).setCell ⟨g, 4, none⟩ x4).setCell ⟨g, 5, none⟩ x5).setCell ⟨g, 6, none⟩ x6).setCell ⟨g, 7, none⟩ x7).cell? ⟨b, k, none⟩ = some u :=
  cs_1 hne (cs_1 hne (cs_1 hne (cs_1 hne (cs_1 hne (cs_1 hne (cs_1 hne (cs_1 hne h)))))))
set_option maxHeartbeats 2000000 in
theorem implHolders_any (o s k f l m : Int) (b : Bool) (d : List Int) (a : Option Addr) (cap : Nat) (w : World) (h : SlRd intR w a d) :
    Calls Try.prog 42 #[.agg #[.int .i64 o, .int .i64 s, .bool b, .int .i64 k, .int .i64 f, .int .i64 l, .int .i64 m, .slice a d.length cap]] w fun e w' => ∃ v, e = .returned v ∧ Made w w' v (if entB (o, s, b, k, f, l, m, d) then hoI o s else []) := by
  have X := heap_at w (.cells #[.int .i64 o, .int .i64 s, .bool b, .int .i64 k, .int .i64 f, .int .i64 l, .int .i64 m, .slice a d.length cap] 48)
  have B := box_below w (.cells #[.int .i64 o, .int .i64 s, .bool b, .int .i64 k, .int .i64 f, .int .i64 l, .int .i64 m, .slice a d.length cap] 48)
  have HK : Hid (∀ W, Below w.heap.size w W → Calls Try.prog 51 #[.agg #[.int .i64 o, .int .i64 s, .bool b, .int .i64 k, .int .i64 f, .int .i64 l, .int .i64 m, .slice a d.length cap]] W fun e w' => e = .returned (.bool (entB (o, s, b, k, f, l, m, d))) ∧ Below W.heap.size W w') := fun W hb => implEntryOk_any o s k f l m b d a cap W (slrd_next h hb)
  clear h
  cases hv : entB (o, s, b, k, f, l, m, d)
  · rw [hv] at HK
    go_enter Try.func42, Try.ntmps42
    go_wp2_with fail
    generalize w.alloc (.cells #[.int .i64 o, .int .i64 s, .bool b, .int .i64 k, .int .i64 f, .int .i64 l, .int .i64 m, .slice a d.length cap] 48) = W0 at X B ⊢
    refine (HK.out _ B).mono ?_
    rintro e w1 ⟨rfl, b1⟩
    have M : Hid (Made w (w1.alloc (.cells #[] 2)) (.slice (some ⟨w1.heap.size, 0, none⟩) 0 0) []) := made_step (below_step B b1) (made_lit w1 #[] [] rfl (by unfold maxLen; simp))
    clear b1 HK X B
    go_wp2
    go_ret
    exact ⟨_, rfl, M.out⟩
  · rw [hv] at HK
    have HE : Hid (holL o s 8 = hoI o s) := holL_eq (who_of hv)
    go_enter Try.func42, Try.ntmps42
    go_wp2_with fail
    generalize w.alloc (.cells #[.int .i64 o, .int .i64 s, .bool b, .int .i64 k, .int .i64 f, .int .i64 l, .int .i64 m, .slice a d.length cap] 48) = W0 at X B ⊢
    refine (HK.out _ B).mono ?_
    rintro e w1 ⟨rfl, b1⟩
    replace X := row_keep b1 X
    replace B := below_step B b1
    obtain ⟨x0, x1, x2, x3, x4, x5, x6, x7⟩ := cells_8 X
    clear b1 HK X
    go_wp2_with fail
    refine (page_any o s k f l m b _ _).mono ?_
    rintro e w2 ⟨rfl, b2⟩
    replace B := below_step B b2
    clear b2 x0 x1 x2 x3 x4 x5 x6 x7
    go_wp2_with (go_at_call 58; refine (chosenP_any o s _).mono ?_; rintro e w3 ⟨v, rfl, mm⟩; rw [HE.out] at mm; have HM : Hid (Made w w3 v (hoI o s)) := made_step B mm; clear mm)
    go_ret
    exact ⟨_, rfl, HM.out⟩


def fgW (w : World) (g off : Nat) (o s c : Int) : World := (if o = c then w.setCell ⟨g, off, none⟩ (.int .i64 (-1)) else w).setCell ⟨g, off + 1, none⟩ (.int .i64 (withoutI s c))
end Go.Proofs.Ytcnnojfkpkmdmaa
