/- Plain facts on memories that are written, and what the law's walk carries along. No program here. -/
import Derived.Test.YteepmhcpjjgihaaDrawMem2
namespace Go.Proofs.Yteepmhcpjjgihaa
open Go.ChangeShapes Go.WideShapes Go.ChangeAt Go.RowKit

theorem tot_put (xss : List (List Int)) : ∀ (j : Nat) (ys : List Int), tot (xss.set j ys) ≤ tot xss + ys.length := by
  induction xss with
  | nil => intro j ys; simp [tot]
  | cons xs r ih =>
    intro j ys
    cases j with
    | zero => simp [tot]; omega
    | succ j =>
      have := ih j ys
      simp [tot] at this ⊢
      omega
theorem mask_at_most (xs ys : List Int) (m : Int) : (maskL xs ys m).length ≤ 2 := by
  unfold maskL
  split
  · simp
  · simp
theorem wrM_size (xss : List (List Int)) (k : Int) (ys : List Int) (m : Int) : (wrM xss k ys m).length ≤ xss.length ∧ tot (wrM xss k ys m) ≤ tot xss + 2 := by
  unfold wrM wrX
  split
  · split
    · have h1 := tot_put xss k.toNat (maskL (xss.getD k.toNat []) ys m)
      have h2 := mask_at_most (xss.getD k.toNat []) ys m
      rw [List.length_set]
      omega
    · omega
  · simp [tot]
theorem readL_size (xss : List (List Int)) (k : Int) : (readL xss k).length ≤ tot xss := by
  unfold readL
  split
  · rw [List.getD_eq_getElem?_getD]
    cases h : xss[k.toNat]? with
    | none => simp
    | some xs => exact tot_get h
  · simp
theorem tot_same (n k : Nat) (xs : List Int) (h : xs.length = k) : tot (List.replicate n xs) = n * k := by
  induction n with
  | zero => simp [tot]
  | succ n ih =>
    have : tot (List.replicate (n + 1) xs) = xs.length + tot (List.replicate n xs) := by simp [tot, List.replicate_succ]
    rw [this, ih, h, Nat.succ_mul]
    omega
theorem newM_size (n : Int) : (newM n).length ≤ 16 ∧ tot (newM n) ≤ 32 := by
  unfold newM
  cases h : betw n 1 16
  · simp [tot]
  · have hb : n.toNat ≤ 16 := by simp [betw] at h; omega
    simp only [if_true]
    rw [tot_same n.toNat 2 [0, 0] rfl, List.length_replicate]
    omega
theorem isL_mask {xs ys : List Int} {m : Int} (h1 : isL xs = true) (h2 : isL ys = true) (h3 : betw m 0 3 = true) : isL (maskL xs ys m) = true := by
  rcases isL_cases xs with hn | ⟨x, y, rfl, ox, oy⟩
  · rw [h1] at hn; cases hn
  rcases isL_cases ys with hn | ⟨x2, y2, rfl, ox2, oy2⟩
  · rw [h2] at hn; cases hn
  unfold maskL
  rw [h1, h2, h3]
  simp only [Bool.and_self, if_true]
  refine isL_yes ?_ ?_
  · split
    · exact ox2
    · exact ox
  · split
    · exact oy2
    · exact oy

theorem memOk_put {xss : List (List Int)} {j : Nat} {zs : List Int} (h : memOk xss = true) (hz : isL zs = true) : memOk (xss.set j zs) = true := by
  unfold memOk at h ⊢
  rw [Bool.and_eq_true, List.all_eq_true] at h
  rw [Bool.and_eq_true, List.all_eq_true, List.length_set]
  refine ⟨h.1, fun xs hx => ?_⟩
  rcases List.mem_or_eq_of_mem_set hx with h' | h'
  · exact h.2 xs h'
  · rw [h']; exact hz

/-- What is told where all is as told. -/
theorem wr_yes {xss : List (List Int)} {k : Int} {ys : List Int} {m : Int} (h : wrB xss k ys m = true) :
    memOk xss = true ∧ isL ys = true ∧ betw m 0 3 = true ∧ ∃ j : Nat, k = j ∧ j < xss.length ∧ memOk (wrM xss k ys m) = true ∧
      ∀ (i : Nat) xs, xss[i]? = some xs → readL (wrM xss k ys m) i = if i = j then maskL xs ys m else xs := by
  unfold wrB at h
  rw [Bool.and_eq_true] at h
  obtain ⟨hk, hc⟩ := h
  have hc' := hc
  unfold wrC at hc
  rw [Bool.and_eq_true, Bool.and_eq_true] at hc
  obtain ⟨hb, hy, h3⟩ := hc
  obtain ⟨j, rfl, hj⟩ := betw_nat hb
  obtain ⟨xs0, hx0⟩ := get_of_lt hj
  have e : wrM xss j ys m = xss.set j (maskL xs0 ys m) := by
    unfold wrM wrX
    rw [hk, hc', if_pos rfl, if_pos rfl, Int.toNat_natCast, List.getD_eq_getElem?_getD, hx0]
    rfl
  have hok : memOk (wrM xss j ys m) = true := by
    rw [e]
    exact memOk_put hk (isL_mask (memOk_get hk hx0) hy h3)
  refine ⟨hk, hy, h3, j, rfl, hj, hok, fun i xs hx => ?_⟩
  have hi : i < xss.length := (List.getElem?_eq_some_iff.1 hx).1
  have hb2 : betw (i : Int) 0 (((wrM xss j ys m).length : Int) - 1) = true := by
    rw [e, List.length_set]
    simp [betw]
    omega
  by_cases he : i = j
  · subst he
    rw [hx] at hx0
    cases hx0
    rw [if_pos rfl]
    exact readL_at hok hb2 (by rw [e, List.getElem?_set_self hi])
  · rw [if_neg he]
    exact readL_at hok hb2 (by rw [e, List.getElem?_set_ne (fun e' => he e'.symm)]; exact hx)

theorem wr_no {xss : List (List Int)} {k : Int} {ys : List Int} {m : Int} (h : wrB xss k ys m = false) :
    (memOk xss = false ∧ wrM xss k ys m = []) ∨ (memOk xss = true ∧ wrM xss k ys m = xss) := by
  unfold wrB at h
  unfold wrM wrX
  cases hk : memOk xss
  · exact .inl ⟨rfl, rfl⟩
  · rw [hk, Bool.true_and] at h
    rw [h]
    exact .inr ⟨rfl, rfl⟩

structure KitM (w wr : World) (aM aX : Option Addr) (xss pss : List (List Int)) (aL : Option Addr) (ys : List Int) : Prop where
  bel : Below w.heap.size w wr
  rm : ReadsM wr aM xss
  rx : ReadsM wr aX pss
  rl : Reads wr aL ys
theorem KitM.below {w wr w2 : World} {aM aX : Option Addr} {xss pss : List (List Int)} {aL : Option Addr} {ys : List Int} (K : KitM w wr aM aX xss pss aL ys) (b : Below wr.heap.size wr w2) : KitM w w2 aM aX xss pss aL ys :=
  ⟨below_step K.bel b, readsM_below K.rm b, readsM_below K.rx b, reads_below K.rl b⟩
theorem KitM.drew {w wr : World} {aM aX : Option Addr} {xss pss : List (List Int)} {aL : Option Addr} {ys : List Int} (K : KitM w wr aM aX xss pss aL ys) (n : Nat) : KitM w (wr.drewN n) aM aX xss pss aL ys :=
  ⟨below_drewN K.bel n, K.rm, K.rx, K.rl⟩

end Go.Proofs.Yteepmhcpjjgihaa
