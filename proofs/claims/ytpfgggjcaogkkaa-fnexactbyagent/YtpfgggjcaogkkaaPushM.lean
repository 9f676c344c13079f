
/- A copy is appended to a list that the call itself makes; a list of words copied. Conditions: how many there are. -/
import Derived.Test.YtpfgggjcaogkkaaPush
import Derived.Test.YtpfgggjcaogkkaaCopyInts
import Derived.Test.YtpfgggjcaogkkaaStoreC
import Derived.Test.YtpfgggjcaogkkaaOwned
namespace Go.Proofs.Ytpfgggjcaogkkaa
open Go.ChangeShapes Go.WideShapes Go.ChangeAt Go.RowKit
set_option linter.unusedVariables false
set_option linter.unusedSimpArgs false
theorem below_by {B : Nat} {w0 w1 w2 : World} {S : Foot} (h : Below B w0 w1) (hB : B ≤ w1.heap.size) (n : Chg (Old w1 S) w1 w2) (hs : ∀ k, S k → B ≤ k) : Below B w0 w2 :=
  ⟨n.os.trans h.os, n.tape.trans h.tape, n.output.trans h.output, Nat.le_trans h.size n.size, fun j hj => (n.block j (Nat.lt_of_lt_of_le hj hB) (fun q => by have := hs j q.1; omega)).trans (h.block j hj)⟩
/-- append(list, x) where the list is made since w0, and x since the list was last turned. -/
theorem wpList_pm {α : Type} {P : Program} {w0 wr w1 : World} {ops : Array Oper} {rest : List Oper} {o : Oper} {a : Act} {Q : Exit → Act → World → Prop} (hgd : o.guard = none) (s x : Operand) (t : TypeId)
    (ho : o.op = .call { callee := .builtin .append, args := #[s, x], argTypes := #[t, t] })
    (R : Rep α) (e : TypeId) (i : TypeInfo) (z : Value) (bytes : Nat) (ht : P.underlying t = some (.slice e)) (hi : P.info? e = some i) (hz : i.zero = some z) (hsize : i.size = R.size) (hby : i.bytes = bytes) (hzs : z.cells.size = R.size) (hsz : 0 < R.size) (hty : e ∉ R.tys)
    (v : Value) (xs : List α) (c : List Value) (y : α) (cc : Nat) (hs : a.eval s = v) (qb : Nat) (hx : a.eval x = .slice (some ⟨qb, 0, none⟩) 1 cc) (hq : qb = w1.heap.size)
    (M : MadeR (slR e R) w0 wr [v] xs) (hb : Below wr.heap.size wr w1) (Y : R.own w1 (rng wr.heap.size w1.heap.size) c y) (hone : ∀ u ∈ c, u.oneCell' = true) (hlen : xs.length + 1 ≤ maxLen) (hbytes : (xs.length + 1) * bytes ≤ 140737488355328)
    (k : ∀ g' cap' w2, MadeR (slR e R) w0 w2 [.slice (some ⟨g', 0, none⟩) (xs.length + 1) cap'] (xs ++ [y]) → Chg (rng w0.heap.size w1.heap.size) w1 w2 → wpList P ops Q rest (a.put o.dst (.slice (some ⟨g', 0, none⟩) (xs.length + 1) cap')) w2) :
    wpList P ops Q (o :: rest) a (w1.alloc (.cells c.toArray e)) := by
  have h0 := M.2.size
  have h1 := below_step M.2 hb
  refine wpList_push hgd s x t ho R e i z bytes ht hi hz hsize hby hzs hsz hty w0.heap.size (rng w0.heap.size wr.heap.size) (rng wr.heap.size w1.heap.size) v xs c y cc hs qb hx hq (own_next M.1 hb) Y (rng_dis (.inl (Nat.le_refl _))) (fun k hk => hk.1) (fun k hk => Nat.le_trans h0 hk.1) h1.size hone hlen hbytes ?_
  intro g' cap' w2 N1 N2
  exact k g' cap' w2 ⟨N1, below_by h1 h1.size N2 (fun k hk => hk.1)⟩ (N2.mono (fun k hk => ⟨hk.1.1, hk.2⟩))
theorem run_make_cap {P : Program} (t e : TypeId) (z : Value) (size bytes : Nat) (ht : P.underlying t = some (.slice e)) (hinfo : (P.info? e).map (fun i => (i.zero, i.size, i.bytes)) = some (some z, size, bytes))
    (n : Nat) (hbytes : bytes * n ≤ 281474976710656) (h63 : n ≤ 9223372036854775807) (w : World) :
    (Instr.makeSlice t (.int .i64 0) (.int .i64 (n : Int))).run P w = .ok (.slice (some ⟨w.heap.size, 0, none⟩) 0 n) (w.alloc (.cells (madeCells z.cells (n * size)) e)) := by
  obtain ⟨i, hi, hzz⟩ := Option.map_eq_some_iff.1 hinfo
  simp only [Prod.mk.injEq] at hzz
  obtain ⟨hz, hs, hb⟩ := hzz
  have h2 : (i.bytes : Int) * (n : Int) ≤ 281474976710656 := by rw [hb, ← Int.natCast_mul]; omega
  have := run_make (P := P) w t e i z ht hi hz .i64 .i64 (0 : Int) (n : Int) (by omega) (by omega) h2 (by omega)
  simpa [hs] using this
theorem made_cap {α : Type} {e : TypeId} {R : Rep α} (w : World) (cur : Array Value) (n : Nat) (hm : n ≤ maxLen) (hs : cur.size = n * R.size) : MadeR (slR e R) w (w.alloc (.cells cur e)) [.slice (some ⟨w.heap.size, 0, none⟩) 0 n] [] := by
  refine ⟨⟨_, [], fun _ => False, rfl, World.ownsRow_made (base := 0) (e := e) (size := R.size) w cur n (Nat.zero_le _) hm hs, fun g hg => ?_, fun _ h => h.elim, rfl⟩, box_below w _⟩
  simp [Value.ownBlock] at hg
  subst hg
  exact ⟨⟨Nat.le_refl _, by simp⟩, fun h => h⟩
set_option maxHeartbeats 1000000 in
theorem wordsC_any (a : Addr) (xs : List Int) (cap : Nat) (w : World) (h : Reads w (some a) xs) (hm : xs.length ≤ 1048576) :
    Calls Try.prog 21 #[.slice (some a) xs.length cap] w fun e w' => ∃ v, e = .returned v ∧ Made w w' v xs := by
  obtain ⟨i0, hi, hz0, hz1, hz2⟩ := info_parts Try.infoI
  have hown : (w.alloc (.cells #[] 2)).ownsRow w.heap.size 2 1 (.slice (some ⟨w.heap.size, 0, none⟩) 0 0) 0 [] := World.ownsRow_lit _ #[] 0 (Nat.le_refl _) (Nat.zero_le _) rfl
  go_enter Try.func21, Try.ntmps21
  go_wp2_with (at_builtin; refine wpList_append_own _ rfl _ _ 33 rfl w.heap.size 2 i0 (.int .i64 0) 1 8 Try.underlying33 hi hz0 hz1 hz2 rfl (by decide) _ _ _ rfl hown a xs.length cap (xs.map (Value.int .i64)) rfl (by simp) ?c1 ?c2 ?c3 ?c4 ?c5 ?_)
  case c1 =>
    intro j u hj
    obtain ⟨hjl, rfl⟩ := List.getElem?_eq_some_iff.1 hj
    simp at hjl
    rcases h with rfl | ⟨b, off, ha, hc⟩
    · simp at hjl
    simp only [Option.some.injEq] at ha
    subst ha
    have g0 := hc j hjl
    rw [show (⟨b, off, none⟩ : Addr).add j = ⟨b, off + j, none⟩ from by simp [Addr.add], World.cell?_alloc_past _ _ _ (World.block_lt_of_cell? w _ g0), g0]
    simp [List.getD_eq_getElem?_getD, hjl]
  case c2 => intro u hu; simp at hu; obtain ⟨x, _, rfl⟩ := hu; rfl
  case c3 => unfold maxLen; omega
  case c4 => omega
  case c5 => simp
  · intro v' w1 hown' hgrow hnil
    have hv : v' ≠ .slice none 0 0 := hnil
    have HO : Hid (Made w w1 v' xs) := made_app hown' hgrow hv
    clear hown' hgrow hnil hown
    go_wp2
    go_ret
    exact ⟨_, rfl, HO.out⟩
set_option maxHeartbeats 1000000 in
theorem wordsC_nil (cap : Nat) (w : World) : Calls Try.prog 21 #[.slice none 0 cap] w fun e w' => ∃ v, e = .returned v ∧ MadeR intsR w w' [v] [] := by
  obtain ⟨i0, hi, hz0, hz1, hz2⟩ := info_parts Try.infoI
  have hown : (w.alloc (.cells #[] 2)).ownsRow w.heap.size 2 1 (.slice (some ⟨w.heap.size, 0, none⟩) 0 0) 0 [] := World.ownsRow_lit _ #[] 0 (Nat.le_refl _) (Nat.zero_le _) rfl
  go_enter Try.func21, Try.ntmps21
  go_wp2_with (at_builtin; refine wpList_append_zero rfl _ _ 33 rfl w.heap.size 2 i0 1 Try.underlying33 hi cap _ _ _ rfl hown rfl ?_)
  go_ret
  exact ⟨_, rfl, made_nothing w⟩
theorem wordsC_rep (a : Option Addr) (xs : List Int) (cap : Nat) (w : World) (h : SlRd intR w a xs) (hm : xs.length ≤ 1048576) :
    Calls Try.prog 21 #[.slice a xs.length cap] w fun e w' => ∃ v, e = .returned v ∧ MadeR intsR w w' [v] xs := by
  cases a with
  | some ad => exact (wordsC_any ad xs cap w (reads_of h) hm).mono fun e w' ⟨v, h1, h2⟩ => ⟨v, h1, madeR_ints h2 (in64_of h)⟩
  | none =>
    rcases h with rfl | ⟨b, off, rows, ha, _⟩
    · exact wordsC_nil cap w
    · cases ha
end Go.Proofs.Ytpfgggjcaogkkaa
