/- One tree of a store set anew, of the program. Condition: a tree that is right, a store that is owned. -/
import Derived.Test.YtnalbbfilejokaaLastOp
import Derived.Test.YtnalbbfilejokaaDropImpl
namespace Go.Proofs.Ytnalbbfilejokaa
open Go.ChangeShapes Go.WideShapes Go.ChangeAt Go.RowKit Go.Shelf
set_option linter.unusedVariables false

theorem tou_ok {t n y : Int} (h : treeB t n = true) (h0 : 0 ≤ y) (h1 : y < n) : treeB (touI t n y) n = true := by
  simp only [treeB, decide_eq_true_eq] at h
  rcases h with ⟨rfl, rfl⟩ | ⟨rfl, a, b⟩ | ⟨rfl, a, b⟩
  · obtain rfl : y = 0 := by omega
    decide
  · rcases (by omega : t = 0 ∨ t = 1) with rfl | rfl <;> rcases (by omega : y = 0 ∨ y = 1) with rfl | rfl <;> decide
  · rcases (by omega : t = 0 ∨ t = 1 ∨ t = 2 ∨ t = 3 ∨ t = 4 ∨ t = 5 ∨ t = 6 ∨ t = 7) with rfl | rfl | rfl | rfl | rfl | rfl | rfl | rfl <;> rcases (by omega : y = 0 ∨ y = 1 ∨ y = 2 ∨ y = 3) with rfl | rfl | rfl | rfl <;> decide
theorem tree_in64 {t n : Int} (h : treeB t n = true) : In64 t := by
  simp only [treeB, decide_eq_true_eq] at h
  constructor <;> omega
theorem tu_tou {t n y : Int} (h : treeB t n = true) (h0 : 0 ≤ y) (h1 : y < n) : tuI t n y = touI t n y := by
  unfold tuI
  rw [h, if_pos]
  simp [betw]
  omega

theorem own_num {w : World} {S : Foot} {v : Value} {xs : List Int} {j : Nat} {x : Int} (h : intsR.own w S [v] xs) (hx : xs[j]? = some x) :
    ∃ g cap, v = .slice (some ⟨g, 0, none⟩) xs.length cap ∧ S g ∧ g < w.heap.size ∧ w.cell? ⟨g, j, none⟩ = some (.int .i64 x) ∧
      ∀ w1 y, Below w.heap.size w w1 → In64 y → w1.cell? ⟨g, j, none⟩ = some (.int .i64 x) ∧ w1.frozen? ⟨g, j, none⟩ = false ∧ intsR.own (w1.setCell ⟨g, j, none⟩ (.int .i64 y)) S [v] (xs.set j y) ∧ Chg (fun k => k = g) w (w1.setCell ⟨g, j, none⟩ (.int .i64 y)) := by
  obtain ⟨g, cap, cur, Sj, T, c, hv, hSg, hg, hc, hcl, ho, s1, s2, hd, n1, n2, back⟩ := slown_focus h hx
  have e1 : intR.size = 1 := rfl
  simp only [e1, Nat.mul_one] at hc back
  have hcx : c = [.int .i64 x] := ho.1
  subst hcx
  have hck : cur[j]? = some (.int .i64 x) := by simpa using hc 0 (by decide)
  have kl := (Array.getElem?_eq_some_iff.1 hck).1
  have hgl := (Array.getElem?_eq_some_iff.1 hg).1
  refine ⟨g, cap, hv, hSg, hgl, by rw [cell_of_row w g j _ _ (0, 0) hg]; exact hck, fun w1 y hb hy => ?_⟩
  have hg1 := row_keep hb hg
  have hch : Chg (fun k => k = g) w (w1.setCell ⟨g, j, none⟩ (.int .i64 y)) :=
    (chg_below (S := fun k => k = g) hb).trans (chg_grown (grown_at w1 g j _) rfl)
  refine ⟨by rw [cell_of_row w1 g j _ _ (0, 0) hg1]; exact hck, frozen_of_row w1 g j _ _ hg1, ?_, hch⟩
  refine back _ (cur.setIfInBounds j (.int .i64 y)) [.int .i64 y] y (fun _ => False) S (heap_setCell_same w1 g j _ _ _ hg1) (by simp) ?_ ?_ ?_ ⟨rfl, hy⟩ (fun _ hk _ => hk) (fun hk => hk) hSg (fun _ hk => hk.elim) s2
  · intro i hi
    rw [Array.getElem?_setIfInBounds_ne (by omega)]
  · intro i hi
    have : i = 0 := by omega
    subst this
    simp [kl]
  · intro k hk hl
    exact hch.block k hl fun e => n2 (by have e' : k = g := e; rw [← e']; exact hk)

set_option maxRecDepth 8000 in
set_option maxHeartbeats 4000000 in
theorem implTouch_any (S : Foot) (b0 o0 n cap : Nat) (v : Value) (ts : List Int) (sn fi m : Nat) (t : Int) (a1 : Option Addr) (c1 : Nat) (w : World) (hn : 0 < n) (hw : w.cell? ⟨b0, o0, none⟩ = some (.slice a1 m c1)) (h : intsR.own w S [v] ts) (ht : ts[sn]? = some t) (hlen : ts.length ≤ maxLen) (htr : treeB t m = true) (hf : fi < m) :
    Calls Try.prog 43 #[.agg #[.slice (some ⟨b0, o0, none⟩) n cap, v], .agg #[.int .i64 (sn : Int), .int .i64 (fi : Int)]] w fun e w' => e = .returned (.tuple #[]) ∧
      intsR.own w' S [v] (ts.set sn (touI t m fi)) ∧ ∃ g, S g ∧ g < w.heap.size ∧ Chg (fun k => k = g) w w' := by
  have hsl : sn < ts.length := (List.getElem?_eq_some_iff.1 ht).1
  have hsl' : (sn : Int) < (ts.length : Int) := by omega
  obtain ⟨g, cpv, rfl, hSg, hgl, hcell, step⟩ := own_num h ht
  have HT : Hid (∀ W, Calls Try.prog 90 #[.int .i64 t, .int .i64 (m : Int), .int .i64 (fi : Int)] W fun e w' => e = .returned (.int .i64 (touI t m fi)) ∧ w' = W) := fun W => by
    have := implTouched_any t m fi W
    rwa [tu_tou htr (by omega) (by omega)] at this
  have hy : In64 (touI t m fi) := tree_in64 (tou_ok htr (by omega) (by omega))
  generalize touI t m fi = y at HT hy ⊢
  have ST : Hid _ := step
  clear step h
  have B0 := below_step (box_below w (.cells #[.slice (some ⟨b0, o0, none⟩) n cap, .slice (some ⟨g, 0, none⟩) ts.length cpv] 27)) (box_below _ (.cells #[.int .i64 (sn : Int), .int .i64 (fi : Int)] 65))
  have X0 := heap_on (.cells #[.int .i64 (sn : Int), .int .i64 (fi : Int)] 65) (heap_at w (.cells #[.slice (some ⟨b0, o0, none⟩) n cap, .slice (some ⟨g, 0, none⟩) ts.length cpv] 27))
  have Y0 := heap_at (w.alloc (.cells #[.slice (some ⟨b0, o0, none⟩) n cap, .slice (some ⟨g, 0, none⟩) ts.length cpv] 27)) (.cells #[.int .i64 (sn : Int), .int .i64 (fi : Int)] 65)
  rw [alloc_len] at Y0
  go_enter Try.func43, Try.ntmps43
  go_wp2
  generalize (w.alloc (.cells #[.slice (some ⟨b0, o0, none⟩) n cap, .slice (some ⟨g, 0, none⟩) ts.length cpv] 27)).alloc (.cells #[.int .i64 (sn : Int), .int .i64 (fi : Int)] 65) = W0 at B0 X0 Y0 ⊢
  obtain ⟨x0, x1⟩ := cells_two X0
  obtain ⟨y0, y1⟩ := cells_two Y0
  have q0 := cell_keep B0 hw (cell_lt hw)
  have q1 := cell_keep B0 hcell hgl
  have m0 : ∀ n' : Cls (fun wx => Below W0.heap.size W0 wx), n'.w.cell? ⟨w.heap.size, 0, none⟩ = some (.slice (some ⟨b0, o0, none⟩) n cap) := fun n' => cell_keep n'.h x0 (cell_lt x0)
  have m1 : ∀ n' : Cls (fun wx => Below W0.heap.size W0 wx), n'.w.cell? ⟨w.heap.size, 1, none⟩ = some (.slice (some ⟨g, 0, none⟩) ts.length cpv) := fun n' => cell_keep n'.h x1 (cell_lt x1)
  have m2 : ∀ n' : Cls (fun wx => Below W0.heap.size W0 wx), n'.w.cell? ⟨w.heap.size + 1, 0, none⟩ = some (.int .i64 (sn : Int)) := fun n' => cell_keep n'.h y0 (cell_lt y0)
  have m3 : ∀ n' : Cls (fun wx => Below W0.heap.size W0 wx), n'.w.cell? ⟨w.heap.size + 1, 1, none⟩ = some (.int .i64 (fi : Int)) := fun n' => cell_keep n'.h y1 (cell_lt y1)
  have Q0 : Hid (∀ n' : Cls (fun wx => Below W0.heap.size W0 wx), n'.w.cell? ⟨b0, o0, none⟩ = some (.slice a1 m c1)) := fun n' => cell_keep n'.h q0 (cell_lt q0)
  have m4 : ∀ n' : Cls (fun wx => Below W0.heap.size W0 wx), n'.w.cell? ⟨g, sn, none⟩ = some (.int .i64 t) := fun n' => cell_keep n'.h q1 (cell_lt q1)
  have HB : Hid _ := B0
  clear x0 x1 y0 y1 q0 q1 X0 Y0 B0 hw hcell
  refine region_last (fun wx => Below W0.heap.size W0 wx) (by kernel_rfl) (by kernel_rfl) (by kernel_rfl) (by simp) ((Below.refl _ W0).drew) ?_
  intro hne
  dsimp only [List.dropLast, lastO]
  repeat (quiet_step (first | (go_at_call 67; exact calls_class (ways_any b0 o0 n cap _ _ _ _ rfl a1 m c1 _ hn (Q0.out _)) (fun w' hc bb => below_step hc bb)) | (go_at_call 90; exact calls_class_same (HT.out _))))
  refine wpQuiet_nil ?_
  intro wx b2
  clear m0 m1 m2 m3 m4 hne
  obtain ⟨r0, r1, r2, r3⟩ := ST.out wx y (below_step HB.out b2) hy
  have HR : Hid _ := And.intro r2 r3
  clear r2 r3
  unfold Oper.wp
  go_simp
  refine bodyPost_end (v := .tuple #[]) (by simp [results, Try.results43, go_sem]) rfl ⟨rfl, HR.out.1, g, hSg, hgl, HR.out.2⟩
end Go.Proofs.Ytnalbbfilejokaa
