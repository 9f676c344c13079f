/- The contracts of the draws for NewMemory, ReadLine and WriteLine: some memory, some list and some numbers are drawn, in new memory, and nothing that was there turns. Conditions: the bytes are at most 2^61. -/
import Derived.Test.YteepmhcpjjgihaaDrawMem
namespace Go.Proofs.Yteepmhcpjjgihaa
open Go.ChangeShapes Go.WideShapes Go.ChangeAt Go.RowKit

theorem tot_rows {xss : List (List Int)} (h : ∀ xs ∈ xss, xs.length ≤ 3) : tot xss ≤ 3 * xss.length := by
  induction xss with
  | nil => simp [tot]
  | cons xs r ih =>
    have h1 := ih (fun ys hy => h ys (List.mem_cons_of_mem _ hy))
    have h2 := h xs List.mem_cons_self
    simp [tot] at h1 ⊢
    omega

set_option maxHeartbeats 400000 in
theorem drawNewMemory_any (a : Option Addr) (len cap : Nat) (zs : List Int) (w : World) (hr : Row8 w a len zs) :
    Calls Try.prog 13 #[.slice a len cap] w fun e w' => ∃ k : Int, e = .returned (.int .i64 k) ∧ Below w.heap.size w w' := by
  go_enter Try.func13, Try.ntmps13
  go_wp2_with fail
  refine (l1New_any _ _ _ zs _ hr).mono ?_
  rintro e w1 ⟨rfl, hc1, hb1⟩
  go_wp2_with fail
  refine (l1From_small _ _ _ _ _ hc1 (by omega) (by omega) (by omega) (by omega)).mono ?_
  rintro e w3 ⟨k, rfl, hk0, hk1, hc3, hg3⟩
  go_wp2
  go_ret
  exact ⟨k, rfl, below_of_grown hb1 hg3⟩

set_option maxHeartbeats 1000000 in
theorem drawReadLine_any (a : Option Addr) (len cap : Nat) (zs : List Int) (w : World) (hr : Row8 w a len zs) :
    Calls Try.prog 11 #[.slice a len cap] w fun e w' => ∃ G c xss, ∃ k : Int, e = .returned (.tuple #[.slice (some ⟨G, 0, none⟩) xss.length c, .int .i64 k]) ∧ xss.length ≤ 17 ∧ tot xss ≤ 51 ∧ ReadsM w' (some ⟨G, 0, none⟩) xss ∧ Below w.heap.size w w' := by
  go_enter Try.func11, Try.ntmps11
  go_wp2_with fail
  refine (l1New_any _ _ _ zs _ hr).mono ?_
  rintro e w1 ⟨rfl, hc1, hb1⟩
  have hgw := cur_lt hc1
  go_wp2_with fail
  refine (l4Draw_any _ _ _ hc1).mono ?_
  rintro e w2 ⟨G, c, xss, rfl, ST⟩
  clear hc1
  go_wp2_with fail
  refine (l1From_small _ _ _ _ _ ST.cur (by omega) (by omega) (by omega) (by omega)).mono ?_
  rintro e w3 ⟨k, rfl, hk0, hk1, hc3, hg3⟩
  replace ST := ST.draw hgw hc3 hg3
  clear hc3 hg3
  go_wp2
  go_ret2
  exact ⟨G, c, xss, k, rfl, ST.len, by have := tot_rows ST.rows; have := ST.len; omega, readsM_own ST.own, below_of_grown hb1 ST.gr⟩

set_option maxHeartbeats 1000000 in
theorem drawWriteLine_any (a : Option Addr) (len cap : Nat) (zs : List Int) (w : World) (hr : Row8 w a len zs) :
    Calls Try.prog 9 #[.slice a len cap] w fun e w' => ∃ G c xss gl cl ys, ∃ k m : Int, e = .returned (.tuple #[.slice (some ⟨G, 0, none⟩) xss.length c, .int .i64 k, .slice (some ⟨gl, 0, none⟩) ys.length cl, .int .i64 m]) ∧
      xss.length ≤ 17 ∧ tot xss ≤ 51 ∧ ys.length ≤ 3 ∧ ReadsM w' (some ⟨G, 0, none⟩) xss ∧ Reads w' (some ⟨gl, 0, none⟩) ys ∧ Below w.heap.size w w' := by
  go_enter Try.func9, Try.ntmps9
  go_wp2_with fail
  refine (l1New_any _ _ _ zs _ hr).mono ?_
  rintro e w1 ⟨rfl, hc1, hb1⟩
  have hgw := cur_lt hc1
  go_wp2_with fail
  refine (l4Draw_any _ _ _ hc1).mono ?_
  rintro e w2 ⟨G, c, xss, rfl, ST⟩
  clear hc1
  go_wp2_with fail
  refine (l1From_small _ _ _ _ _ ST.cur (by omega) (by omega) (by omega) (by omega)).mono ?_
  rintro e w3 ⟨k, rfl, hk0, hk1, hc3, hg3⟩
  replace ST := ST.draw hgw hc3 hg3
  clear hc3 hg3
  go_wp2_with fail
  refine (l3DrawAny_any _ _ _ ST.cur).mono ?_
  rintro e w4 ⟨v, ys, rfl, hl, gl, cl, rfl, l4, o4, hc4, hg4⟩
  have hne : gl ≠ w.heap.size := by have := ST.gr.size; omega
  replace ST := ST.draw hgw hc4 hg4
  clear hc4 hg4
  go_wp2_with fail
  refine (l1Once_small _ _ _ _ ST.cur (by omega) (by omega)).mono ?_
  rintro e w5 ⟨b, rfl, hc5, hg5⟩
  replace ST := ST.draw hgw hc5 hg5
  replace o4 := owni_grown o4 hg5 hne
  clear hc5 hg5
  have HT : Hid (tot xss ≤ 51) := by have := tot_rows ST.rows; have := ST.len; unfold Hid; omega
  cases b
  · go_wp2_with fail
    refine (l1Below_small _ _ _ _ ST.cur (by omega) (by omega)).mono ?_
    rintro e w6 ⟨m, rfl, hm0, hm1, hc6, hg6⟩
    replace ST := ST.draw hgw hc6 hg6
    replace o4 := owni_grown o4 hg6 hne
    clear hc6 hg6
    go_wp2
    refine bodyPost_ret (v := .tuple #[.slice (some ⟨G, 0, none⟩) xss.length c, .int .i64 k, .slice (some ⟨gl, 0, none⟩) ys.length cl, .int .i64 m]) (by simp [results, Try.results9, go_sem]) rfl ⟨G, c, xss, gl, cl, ys, k, m, rfl, ST.len, HT.out, hl, readsM_own ST.own, reads_owni o4, below_of_grown hb1 ST.gr⟩
  · go_wp2
    refine bodyPost_ret (v := .tuple #[.slice (some ⟨G, 0, none⟩) xss.length c, .int .i64 k, .slice (some ⟨gl, 0, none⟩) ys.length cl, .int .i64 4]) (by simp [results, Try.results9, go_sem]) rfl ⟨G, c, xss, gl, cl, ys, k, 4, rfl, ST.len, HT.out, hl, readsM_own ST.own, reads_owni o4, below_of_grown hb1 ST.gr⟩

end Go.Proofs.Yteepmhcpjjgihaa
