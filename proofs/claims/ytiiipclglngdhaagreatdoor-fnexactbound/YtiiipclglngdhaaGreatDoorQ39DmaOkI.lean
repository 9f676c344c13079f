import Derived.Test.YtiiipclglngdhaaGreatDoorQ00Box
import Derived.Test.YtiiipclglngdhaaGreatDoorQ38DmaImpl
import Derived.Test.YtiiipclglngdhaaGreatDoorQ02Nums
namespace Go.Proofs.YtiiipclglngdhaaGreatDoor
open Go.ChangeShapes Go.WideShapes Go.ChangeAt Go.RowKit
set_option linter.unusedVariables false
theorem lrd_takeG {α : Type} {R : Rep α} {w : World} : ∀ (n : Nat) {rows : List Value} {xs : List α}, lrd R w rows xs → lrd R w (rows.take (n * R.size)) (xs.take n) := by
 intro n
 induction n with
 | zero => intro rows xs h; simp [lrd]
 | succ n ih =>
  intro rows xs h
  cases xs with
  | nil =>
   have e : rows = [] := h
   subst e
   simp [lrd]
  | cons x xs =>
   obtain ⟨c, rest, rfl, hc, hr⟩ := h
   have hl := R.rd_len hc
   rw [List.take_succ_cons, show (n + 1) * R.size = c.length + n * R.size from by rw [hl, Nat.add_mul]; omega, List.take_length_add_append]
   exact ⟨c, _, rfl, hc, ih hr⟩
theorem slrd_takeG {α : Type} {R : Rep α} {w : World} {a : Option Addr} {xs : List α} {n : Nat} (h : SlRd R w a xs) : SlRd R w a (xs.take n) := by
 rcases h with rfl | ⟨b, off, rows, rfl, h1, h2⟩
 ·exact .inl (by simp)
 ·refine .inr ⟨b, off, rows.take (n * R.size), rfl, lrd_takeG n h1, fun j u hu => ?_⟩
  rw [List.getElem?_take] at hu
  split at hu
  ·exact h2 j u hu
  ·cases hu
set_option maxHeartbeats 4000000 in
set_option maxRecDepth 20000 in
theorem implDmaOk_u (cs : List Value) (x : DmaD) (w : World) (h : dmaR.rd w cs x) :
    Calls Tryz.prog 104 #[aggV cs] w fun e w' => e = .returned (.bool (dmaB x)) ∧ Below w.heap.size w w' := by
 obtain ⟨z0, z3, rfl, ⟨a, ca, g1, n1, n2, q1⟩, -, -, ⟨b, cb, g2, m1, m2, q2⟩⟩ := dma_rd h
 simp only [List.cons.injEq, and_true] at g1 g2
 obtain rfl := g1
 obtain rfl := g2
 change Calls Tryz.prog 104 #[.agg #[.slice a x.1.length ca, .int .i64 x.2.1, .bool x.2.2.1, .slice b x.2.2.2.length cb]] w _
 have H1 : Hid (∀ W, Below w.heap.size w W → Calls Tryz.prog 140 #[.slice a x.1.length ca] W fun e w' => e = .returned (.bool (descsB x.1)) ∧ Below W.heap.size W w') := fun W hb => implDescsOk_any a x.1 ca W (slrd_next q1 hb) (Nat.le_trans n1 n2)
 have H2 : Hid (∀ W, Calls Tryz.prog 64 #[.agg #[.slice a x.1.length ca, .int .i64 x.2.1, .bool x.2.2.1, .slice b x.2.2.2.length cb]] W fun e w' => e = .returned (.agg #[.slice a x.1.length ca, .int .i64 x.2.1]) ∧ Below W.heap.size W w') := fun W => queue_any x a b ca cb W
 have H3 : Hid (∀ W, Calls Tryz.prog 141 #[.agg #[.slice a x.1.length ca, .int .i64 x.2.1]] W fun e w' => e = .returned (.bool (placeB1 x)) ∧ Below W.heap.size W w') := fun W => place_any x a ca W (Nat.le_trans n1 n2)
 have H4 : Hid (∀ W, Calls Tryz.prog 142 #[.agg #[.slice a x.1.length ca, .int .i64 x.2.1, .bool x.2.2.1, .slice b x.2.2.2.length cb]] W fun e w' => e = .returned (.bool (waitB1 x)) ∧ Below W.heap.size W w') := fun W => waitsOk_any x a b ca cb W (Nat.le_trans n1 n2)
 have H5 : Hid (placeB1 x = true → ∀ W, Calls Tryz.prog 144 #[.agg #[.slice a x.1.length ca, .int .i64 x.2.1]] W fun e w' => e = .returned (.slice a x.2.1.toNat ca) ∧ Below W.heap.size W w') := fun hp W => by
  have hp' : 0 ≤ x.2.1 ∧ x.2.1 ≤ (x.1.length : Int) := by simpa [placeB1, betw] using hp
  exact done_any x a ca W hp'.1 hp'.2 n1 n2
 have H6 : Hid (placeB1 x = true → ∀ W, Below w.heap.size w W → Calls Tryz.prog 143 #[.slice a x.2.1.toNat ca, .slice b x.2.2.2.length cb, .func (.func 145) #[] #[]] W fun e w' => e = .returned (.bool (toldL (x.1.take x.2.1.toNat) x.2.2.2)) ∧ Below W.heap.size W w') := fun hp W hb => by
  have hp' : 0 ≤ x.2.1 ∧ x.2.1 ≤ (x.1.length : Int) := by simpa [placeB1, betw] using hp
  have e : (x.1.take x.2.1.toNat).length = x.2.1.toNat := by rw [List.length_take]; omega
  have := eqFn_any a b (x.1.take x.2.1.toNat) x.2.2.2 ca cb W (slrd_takeG (slrd_next q1 hb)) (slrd_next q2 hb) (by rw [e]; have := Nat.le_trans n1 n2; omega) (Nat.le_trans m1 m2)
  rw [e] at this
  exact this
 unfold dmaB
 generalize descsB x.1 = p1 at H1 ⊢
 generalize placeB1 x = p2 at H3 H5 H6 ⊢
 generalize waitB1 x = p3 at H4 ⊢
 generalize toldL (x.1.take x.2.1.toNat) x.2.2.2 = p4 at H6 ⊢
 clear h q1 q2 n1 n2 m1 m2
 cases p1
 ·clear H2 H3 H4 H5 H6
  go_enter Tryz.func104, Tryz.ntmps104
  go_upto_region 1 with fail
  generalize hW0 : w.alloc _ = W0
  have X := boxH hW0
  have B := boxB hW0
  clear hW0
  obtain ⟨d0, d1, d2, d3⟩ := cells_4 X
  have d0k : ∀ n' : Cls (fun wx => Below W0.heap.size W0 wx), n'.w.cell? ⟨w.heap.size, 0, none⟩ = some (.slice a x.1.length ca) := fun n' => cell_keep n'.h d0 (cell_lt d0)
  have d1k : ∀ n' : Cls (fun wx => Below W0.heap.size W0 wx), n'.w.cell? ⟨w.heap.size, 1, none⟩ = some (.int .i64 x.2.1) := fun n' => cell_keep n'.h d1 (cell_lt d1)
  have d2k : ∀ n' : Cls (fun wx => Below W0.heap.size W0 wx), n'.w.cell? ⟨w.heap.size, 2, none⟩ = some (.bool x.2.2.1) := fun n' => cell_keep n'.h d2 (cell_lt d2)
  have d3k : ∀ n' : Cls (fun wx => Below W0.heap.size W0 wx), n'.w.cell? ⟨w.heap.size, 3, none⟩ = some (.slice b x.2.2.2.length cb) := fun n' => cell_keep n'.h d3 (cell_lt d3)
  replace H1 : Hid (∀ n' : Cls (fun wx => Below W0.heap.size W0 wx), _) := fun n' => H1.out n'.w (below_step B n'.h)
  refine region_class (fun wx => Below W0.heap.size W0 wx) (by kernel_rfl) (by kernel_rfl) ((Below.refl _ W0).drew) ?_
  intro hne
  iterate 3 (quiet_step ((go_at_call 140; exact calls_class (H1.out _) (fun w' hc bb => below_step hc bb))))
  refine wpQuiet_step (fun K hK => ?_)
  go_simp
  refine hid_act K _ ?_
  intro A0 hA0
  refine hK A0 ?_
  clear hK K
  have ht0 : A0.tmps[6]? = some (.bool false) := by rw [hA0]; rfl
  refine wpQuiet_skip (b := true) (d := 6) ht0 rfl rfl rfl (by decide) ?_
  intro S0x0 eS0x0 hS0x0
  clear ht0
  refine wpQuiet_skip (b := true) (d := 6) hS0x0 rfl rfl rfl (by decide) ?_
  intro S0x1 eS0x1 hS0x1
  clear hS0x0
  refine wpQuiet_skip (b := true) (d := 6) hS0x1 rfl rfl rfl (by decide) ?_
  intro S0x2 eS0x2 hS0x2
  clear hS0x1
  clear hS0x2
  subst eS0x2 eS0x1 eS0x0
  subst hA0
  quiet_step ((go_at_call 140; exact calls_class (H1.out _) (fun w' hc bb => below_step hc bb)))
  refine wpQuiet_step (fun K hK => ?_)
  go_simp
  refine hid_act K _ ?_
  intro A1 hA1
  refine hK A1 ?_
  clear hK K
  have ht1 : A1.tmps[11]? = some (.bool false) := by rw [hA1]; rfl
  refine wpQuiet_skip (b := true) (d := 11) ht1 rfl rfl rfl (by decide) ?_
  intro S1x0 eS1x0 hS1x0
  clear ht1
  refine wpQuiet_skip (b := true) (d := 11) hS1x0 rfl rfl rfl (by decide) ?_
  intro S1x1 eS1x1 hS1x1
  clear hS1x0
  clear hS1x1
  subst eS1x1 eS1x0
  subst hA1
  quiet_step ((go_at_call 140; exact calls_class (H1.out _) (fun w' hc bb => below_step hc bb)))
  refine wpQuiet_step (fun K hK => ?_)
  go_simp
  refine hid_act K _ ?_
  intro A2 hA2
  refine hK A2 ?_
  clear hK K
  have ht2 : A2.tmps[15]? = some (.bool false) := by rw [hA2]; rfl
  refine wpQuiet_skip (b := true) (d := 15) ht2 rfl rfl rfl (by decide) ?_
  intro S2x0 eS2x0 hS2x0
  clear ht2
  refine wpQuiet_skip (b := true) (d := 15) hS2x0 rfl rfl rfl (by decide) ?_
  intro S2x1 eS2x1 hS2x1
  clear hS2x0
  refine wpQuiet_skip (b := true) (d := 15) hS2x1 rfl rfl rfl (by decide) ?_
  intro S2x2 eS2x2 hS2x2
  clear hS2x1
  refine wpQuiet_skip (b := true) (d := 15) hS2x2 rfl rfl rfl (by decide) ?_
  intro S2x3 eS2x3 hS2x3
  clear hS2x2
  refine wpQuiet_skip (b := true) (d := 15) hS2x3 rfl rfl rfl (by decide) ?_
  intro S2x4 eS2x4 hS2x4
  clear hS2x3
  refine wpQuiet_skip (b := true) (d := 15) hS2x4 rfl rfl rfl (by decide) ?_
  intro S2x5 eS2x5 hS2x5
  clear hS2x4
  clear hS2x5
  subst eS2x5 eS2x4 eS2x3 eS2x2 eS2x1 eS2x0
  subst hA2
  iterate 2 (quiet_step ((go_at_call 140; exact calls_class (H1.out _) (fun w' hc bb => below_step hc bb))))
  refine wpQuiet_nil ?_
  intro W4 bq
  replace B := below_step B bq
  clear hne d0k d1k d2k d3k d0 d1 d2 d3 X bq
  go_wp2
  go_ret
  exact ⟨by simp, B⟩
 cases p2
 ·clear H4 H5 H6
  go_enter Tryz.func104, Tryz.ntmps104
  go_upto_region 1 with fail
  generalize hW0 : w.alloc _ = W0
  have X := boxH hW0
  have B := boxB hW0
  clear hW0
  obtain ⟨d0, d1, d2, d3⟩ := cells_4 X
  have d0k : ∀ n' : Cls (fun wx => Below W0.heap.size W0 wx), n'.w.cell? ⟨w.heap.size, 0, none⟩ = some (.slice a x.1.length ca) := fun n' => cell_keep n'.h d0 (cell_lt d0)
  have d1k : ∀ n' : Cls (fun wx => Below W0.heap.size W0 wx), n'.w.cell? ⟨w.heap.size, 1, none⟩ = some (.int .i64 x.2.1) := fun n' => cell_keep n'.h d1 (cell_lt d1)
  have d2k : ∀ n' : Cls (fun wx => Below W0.heap.size W0 wx), n'.w.cell? ⟨w.heap.size, 2, none⟩ = some (.bool x.2.2.1) := fun n' => cell_keep n'.h d2 (cell_lt d2)
  have d3k : ∀ n' : Cls (fun wx => Below W0.heap.size W0 wx), n'.w.cell? ⟨w.heap.size, 3, none⟩ = some (.slice b x.2.2.2.length cb) := fun n' => cell_keep n'.h d3 (cell_lt d3)
  replace H1 : Hid (∀ n' : Cls (fun wx => Below W0.heap.size W0 wx), _) := fun n' => H1.out n'.w (below_step B n'.h)
  refine region_class (fun wx => Below W0.heap.size W0 wx) (by kernel_rfl) (by kernel_rfl) ((Below.refl _ W0).drew) ?_
  intro hne
  iterate 8 (quiet_step (first | (go_at_call 140; exact calls_class (H1.out _) (fun w' hc bb => below_step hc bb)) | (go_at_call 64; exact calls_class (H2.out _) (fun w' hc bb => below_step hc bb)) | (go_at_call 141; exact calls_class (H3.out _) (fun w' hc bb => below_step hc bb)) | (go_at_call 142; exact calls_class (H4.out _) (fun w' hc bb => below_step hc bb)) | (go_at_call 144; exact calls_class (H5.out _) (fun w' hc bb => below_step hc bb)) | (go_at_call 143; exact calls_class (H6.out _) (fun w' hc bb => below_step hc bb))))
  refine wpQuiet_step (fun K hK => ?_)
  go_simp
  refine hid_act K _ ?_
  intro A1 hA1
  refine hK A1 ?_
  clear hK K
  have ht1 : A1.tmps[11]? = some (.bool false) := by rw [hA1]; rfl
  refine wpQuiet_skip (b := true) (d := 11) ht1 rfl rfl rfl (by decide) ?_
  intro S1x0 eS1x0 hS1x0
  clear ht1
  refine wpQuiet_skip (b := true) (d := 11) hS1x0 rfl rfl rfl (by decide) ?_
  intro S1x1 eS1x1 hS1x1
  clear hS1x0
  clear hS1x1
  subst eS1x1 eS1x0
  subst hA1
  quiet_step (first | (go_at_call 140; exact calls_class (H1.out _) (fun w' hc bb => below_step hc bb)) | (go_at_call 64; exact calls_class (H2.out _) (fun w' hc bb => below_step hc bb)) | (go_at_call 141; exact calls_class (H3.out _) (fun w' hc bb => below_step hc bb)) | (go_at_call 142; exact calls_class (H4.out _) (fun w' hc bb => below_step hc bb)) | (go_at_call 144; exact calls_class (H5.out _) (fun w' hc bb => below_step hc bb)) | (go_at_call 143; exact calls_class (H6.out _) (fun w' hc bb => below_step hc bb)))
  refine wpQuiet_step (fun K hK => ?_)
  go_simp
  refine hid_act K _ ?_
  intro A2 hA2
  refine hK A2 ?_
  clear hK K
  have ht2 : A2.tmps[15]? = some (.bool false) := by rw [hA2]; rfl
  refine wpQuiet_skip (b := true) (d := 15) ht2 rfl rfl rfl (by decide) ?_
  intro S2x0 eS2x0 hS2x0
  clear ht2
  refine wpQuiet_skip (b := true) (d := 15) hS2x0 rfl rfl rfl (by decide) ?_
  intro S2x1 eS2x1 hS2x1
  clear hS2x0
  refine wpQuiet_skip (b := true) (d := 15) hS2x1 rfl rfl rfl (by decide) ?_
  intro S2x2 eS2x2 hS2x2
  clear hS2x1
  refine wpQuiet_skip (b := true) (d := 15) hS2x2 rfl rfl rfl (by decide) ?_
  intro S2x3 eS2x3 hS2x3
  clear hS2x2
  refine wpQuiet_skip (b := true) (d := 15) hS2x3 rfl rfl rfl (by decide) ?_
  intro S2x4 eS2x4 hS2x4
  clear hS2x3
  refine wpQuiet_skip (b := true) (d := 15) hS2x4 rfl rfl rfl (by decide) ?_
  intro S2x5 eS2x5 hS2x5
  clear hS2x4
  clear hS2x5
  subst eS2x5 eS2x4 eS2x3 eS2x2 eS2x1 eS2x0
  subst hA2
  iterate 2 (quiet_step (first | (go_at_call 140; exact calls_class (H1.out _) (fun w' hc bb => below_step hc bb)) | (go_at_call 64; exact calls_class (H2.out _) (fun w' hc bb => below_step hc bb)) | (go_at_call 141; exact calls_class (H3.out _) (fun w' hc bb => below_step hc bb)) | (go_at_call 142; exact calls_class (H4.out _) (fun w' hc bb => below_step hc bb)) | (go_at_call 144; exact calls_class (H5.out _) (fun w' hc bb => below_step hc bb)) | (go_at_call 143; exact calls_class (H6.out _) (fun w' hc bb => below_step hc bb))))
  refine wpQuiet_nil ?_
  intro W4 bq
  replace B := below_step B bq
  clear hne d0k d1k d2k d3k d0 d1 d2 d3 X bq
  go_wp2
  go_ret
  exact ⟨by simp, B⟩
 replace H5 := H5.out (by first | rfl | trivial)
 replace H6 := H6.out (by first | rfl | trivial)
 have H5h : Hid _ := H5
 have H6h : Hid _ := H6
 clear H5 H6
 cases p3
 ·clear H5h H6h
  go_enter Tryz.func104, Tryz.ntmps104
  go_upto_region 1 with fail
  generalize hW0 : w.alloc _ = W0
  have X := boxH hW0
  have B := boxB hW0
  clear hW0
  obtain ⟨d0, d1, d2, d3⟩ := cells_4 X
  have d0k : ∀ n' : Cls (fun wx => Below W0.heap.size W0 wx), n'.w.cell? ⟨w.heap.size, 0, none⟩ = some (.slice a x.1.length ca) := fun n' => cell_keep n'.h d0 (cell_lt d0)
  have d1k : ∀ n' : Cls (fun wx => Below W0.heap.size W0 wx), n'.w.cell? ⟨w.heap.size, 1, none⟩ = some (.int .i64 x.2.1) := fun n' => cell_keep n'.h d1 (cell_lt d1)
  have d2k : ∀ n' : Cls (fun wx => Below W0.heap.size W0 wx), n'.w.cell? ⟨w.heap.size, 2, none⟩ = some (.bool x.2.2.1) := fun n' => cell_keep n'.h d2 (cell_lt d2)
  have d3k : ∀ n' : Cls (fun wx => Below W0.heap.size W0 wx), n'.w.cell? ⟨w.heap.size, 3, none⟩ = some (.slice b x.2.2.2.length cb) := fun n' => cell_keep n'.h d3 (cell_lt d3)
  replace H1 : Hid (∀ n' : Cls (fun wx => Below W0.heap.size W0 wx), _) := fun n' => H1.out n'.w (below_step B n'.h)
  refine region_class (fun wx => Below W0.heap.size W0 wx) (by kernel_rfl) (by kernel_rfl) ((Below.refl _ W0).drew) ?_
  intro hne
  iterate 12 (quiet_step (first | (go_at_call 140; exact calls_class (H1.out _) (fun w' hc bb => below_step hc bb)) | (go_at_call 64; exact calls_class (H2.out _) (fun w' hc bb => below_step hc bb)) | (go_at_call 141; exact calls_class (H3.out _) (fun w' hc bb => below_step hc bb)) | (go_at_call 142; exact calls_class (H4.out _) (fun w' hc bb => below_step hc bb)) | (go_at_call 144; exact calls_class (H5.out _) (fun w' hc bb => below_step hc bb)) | (go_at_call 143; exact calls_class (H6.out _) (fun w' hc bb => below_step hc bb))))
  refine wpQuiet_step (fun K hK => ?_)
  go_simp
  refine hid_act K _ ?_
  intro A2 hA2
  refine hK A2 ?_
  clear hK K
  have ht2 : A2.tmps[15]? = some (.bool false) := by rw [hA2]; rfl
  refine wpQuiet_skip (b := true) (d := 15) ht2 rfl rfl rfl (by decide) ?_
  intro S2x0 eS2x0 hS2x0
  clear ht2
  refine wpQuiet_skip (b := true) (d := 15) hS2x0 rfl rfl rfl (by decide) ?_
  intro S2x1 eS2x1 hS2x1
  clear hS2x0
  refine wpQuiet_skip (b := true) (d := 15) hS2x1 rfl rfl rfl (by decide) ?_
  intro S2x2 eS2x2 hS2x2
  clear hS2x1
  refine wpQuiet_skip (b := true) (d := 15) hS2x2 rfl rfl rfl (by decide) ?_
  intro S2x3 eS2x3 hS2x3
  clear hS2x2
  refine wpQuiet_skip (b := true) (d := 15) hS2x3 rfl rfl rfl (by decide) ?_
  intro S2x4 eS2x4 hS2x4
  clear hS2x3
  refine wpQuiet_skip (b := true) (d := 15) hS2x4 rfl rfl rfl (by decide) ?_
  intro S2x5 eS2x5 hS2x5
  clear hS2x4
  clear hS2x5
  subst eS2x5 eS2x4 eS2x3 eS2x2 eS2x1 eS2x0
  subst hA2
  iterate 2 (quiet_step (first | (go_at_call 140; exact calls_class (H1.out _) (fun w' hc bb => below_step hc bb)) | (go_at_call 64; exact calls_class (H2.out _) (fun w' hc bb => below_step hc bb)) | (go_at_call 141; exact calls_class (H3.out _) (fun w' hc bb => below_step hc bb)) | (go_at_call 142; exact calls_class (H4.out _) (fun w' hc bb => below_step hc bb)) | (go_at_call 144; exact calls_class (H5.out _) (fun w' hc bb => below_step hc bb)) | (go_at_call 143; exact calls_class (H6.out _) (fun w' hc bb => below_step hc bb))))
  refine wpQuiet_nil ?_
  intro W4 bq
  replace B := below_step B bq
  clear hne d0k d1k d2k d3k d0 d1 d2 d3 X bq
  go_wp2
  go_ret
  exact ⟨by simp, B⟩
 have H5 := H5h
 have H6 := H6h
 clear H5h H6h
 go_enter Tryz.func104, Tryz.ntmps104
 go_upto_region 1 with fail
 generalize hW0 : w.alloc _ = W0
 have X := boxH hW0
 have B := boxB hW0
 clear hW0
 obtain ⟨d0, d1, d2, d3⟩ := cells_4 X
 have d0k : ∀ n' : Cls (fun wx => Below W0.heap.size W0 wx), n'.w.cell? ⟨w.heap.size, 0, none⟩ = some (.slice a x.1.length ca) := fun n' => cell_keep n'.h d0 (cell_lt d0)
 have d1k : ∀ n' : Cls (fun wx => Below W0.heap.size W0 wx), n'.w.cell? ⟨w.heap.size, 1, none⟩ = some (.int .i64 x.2.1) := fun n' => cell_keep n'.h d1 (cell_lt d1)
 have d2k : ∀ n' : Cls (fun wx => Below W0.heap.size W0 wx), n'.w.cell? ⟨w.heap.size, 2, none⟩ = some (.bool x.2.2.1) := fun n' => cell_keep n'.h d2 (cell_lt d2)
 have d3k : ∀ n' : Cls (fun wx => Below W0.heap.size W0 wx), n'.w.cell? ⟨w.heap.size, 3, none⟩ = some (.slice b x.2.2.2.length cb) := fun n' => cell_keep n'.h d3 (cell_lt d3)
 replace H1 : Hid (∀ n' : Cls (fun wx => Below W0.heap.size W0 wx), _) := fun n' => H1.out n'.w (below_step B n'.h)
 replace H6 : Hid (∀ n' : Cls (fun wx => Below W0.heap.size W0 wx), _) := fun n' => H6.out n'.w (below_step B n'.h)
 refine region_class (fun wx => Below W0.heap.size W0 wx) (by kernel_rfl) (by kernel_rfl) ((Below.refl _ W0).drew) ?_
 intro hne
 iterate 21 (quiet_step (first | (go_at_call 140; exact calls_class (H1.out _) (fun w' hc bb => below_step hc bb)) | (go_at_call 64; exact calls_class (H2.out _) (fun w' hc bb => below_step hc bb)) | (go_at_call 141; exact calls_class (H3.out _) (fun w' hc bb => below_step hc bb)) | (go_at_call 142; exact calls_class (H4.out _) (fun w' hc bb => below_step hc bb)) | (go_at_call 144; exact calls_class (H5.out _) (fun w' hc bb => below_step hc bb)) | (go_at_call 143; exact calls_class (H6.out _) (fun w' hc bb => below_step hc bb))))
 refine wpQuiet_nil ?_
 intro W4 bq
 replace B := below_step B bq
 clear hne d0k d1k d2k d3k d0 d1 d2 d3 X bq
 go_wp2
 go_ret
 exact ⟨by simp, B⟩
end Go.Proofs.YtiiipclglngdhaaGreatDoor
