/- All letters leave a post that is a heap, in the order of their numbers. Conditions: a post that is owned, of a length that a machine can hold. -/
import Derived.Test.YtfflmbpjolgghaaPosted
namespace Go.Proofs.Ytfflmbpjolgghaa
open Go.ChangeShapes Go.WideShapes Go.ChangeAt Go.RowKit
set_option linter.unusedVariables false

theorem field_msg (a b c d e f g h : Value) (W : World) : (Instr.field 88 (.agg #[a, b, c, d, e, f, g, h]) 1).run Try.prog W = .ok (.agg #[b, c, d, e, f, g, h]) W := by kernel_rfl
def slLen : Value → Nat
  | .slice _ n _ => n
  | _ => 0
theorem post_shape {w : World} {S : Foot} {a : Option Addr} {n cap : Nat} {ls : List LetD} (h : postR.own w S [.slice a n cap] ls) (hn : 0 < ls.length) : ∃ g, a = some ⟨g, 0, none⟩ ∧ S g ∧ n = ls.length := by
  obtain ⟨v', rows, S', hv, hr, hg, hs, hl⟩ := h
  simp only [List.cons.injEq, and_true] at hv
  subst hv
  rcases hr.2 with ⟨_, h0⟩ | ⟨g, cap', cur, hx, _⟩
  · omega
  · simp only [Value.slice.injEq] at hx
    obtain ⟨rfl, rfl, rfl⟩ := hx
    exact ⟨g, rfl, (hg g rfl).1, rfl⟩
/-- What holds between two rounds of 'list': k letters are listed. -/
structure ListI (w wr : World) (pb : Nat) (S : Foot) (ms : List LetD) (k : Nat) (au : Option Addr) (cu : Nat) (v : Value) (ls : List LetD) : Prop where
  row : wr.heap[pb]? = some (.cells #[v] 83 (0, 0))
  own : postR.own wr S [v] ls
  perm : ls.Perm (ms.drop k)
  heap : HeapL ls ls.length
  net : wr.ownsRow w.heap.size 27 7 (.slice au k cu) k (flatL (ms.take k))
  chg : Chg (fun b => S b ∨ b = pb) w wr
  sz : w.heap.size ≤ wr.heap.size
theorem net_chg {w wr w' : World} {S : Foot} {pb : Nat} {v : Value} {n : Nat} {rows : List Value} (h : wr.ownsRow w.heap.size 27 7 v n rows) (hc : Chg (fun b => S b ∨ b = pb) wr w') (hS : ∀ k, S k → k < w.heap.size) (hp : pb < w.heap.size) : w'.ownsRow w.heap.size 27 7 v n rows :=
  orow_keep h fun g hg => by
    have hl := World.ownsRow.lt h g hg
    refine hc.block g hl.2 ?_
    rintro (hx | hx)
    · have := hS g hx
      omega
    · omega

set_option maxRecDepth 20000 in
set_option maxHeartbeats 8000000 in
theorem postList_any (pb : Nat) (S T : Foot) (v : Value) (ls ms : List LetD) (xs : List MsgD) (w : World) (hp : w.heap[pb]? = some (.cells #[v] 83 (0, 0))) (ho : postR.own w S [v] ls) (hb : lown msgR w T (flatL ms) xs) (hd : Dis S T) (hsp : ¬ S pb) (htp : ¬ T pb)
    (hsl : ∀ k, S k → k < w.heap.size) (htl : ∀ k, T k → k < w.heap.size) (hsh : ∀ u ∈ ms, MsgC u.2) (hr : Rising ms) (hpm : ls.Perm ms) (hh : HeapL ls ls.length) (hm : ms.length ≤ 900) (hxl : ms.length = xs.length) :
    Calls Try.prog 40 #[.pointer (some ⟨pb, 0, none⟩)] w fun e w' => ∃ av cv, e = .returned (.slice av xs.length cv) ∧ msgsR.own w' (fun k => T k ∨ (w.heap.size ≤ k ∧ k < w'.heap.size)) [.slice av xs.length cv] xs ∧ Chg (fun b => S b ∨ b = pb) w w' := by
  have hpl := (Array.getElem?_eq_some_iff.1 hp).1
  obtain ⟨a0, c0, rfl⟩ := slown_val ho
  have hlm : ls.length = ms.length := hpm.length_eq
  obtain ⟨ti, hi, hz0, hz1, hz2⟩ := info_parts Try.infoMsg
  have q0 : w.cell? ⟨pb, 0, none⟩ = some (.slice a0 ms.length c0) := by rw [cell_of_row w pb 0 _ _ (0, 0) hp, ← hlm]; rfl
  obtain ⟨W0, hmk, hnet, hgr⟩ := run_make_own (P := Try.prog) w w.heap.size 24 27 ti _ 7 Try.underlying24 hi hz0 hz1 .i64 .i64 ms.length (by rw [hz2]; omega) (by unfold maxLen; omega) (Nat.le_refl _)
  have HLn := postLen_any a0 ms.length c0 w (by unfold maxLen; omega)
  have bg : Below w.heap.size w W0 := ⟨hgr.os, hgr.tape, hgr.output, hgr.size, fun k hk => hgr.block k hk (by simp)⟩
  have I0 : ListI w W0 pb S ms 0 (some ⟨w.heap.size, 0, none⟩) ms.length (.slice a0 ls.length c0) ls := ⟨row_keep bg hp, postR.own_keep ho (keeps_below bg), by simpa using hpm, hh, hnet, chg_below bg, bg.size⟩
  have HH : Hid _ := And.intro hb (And.intro hd (And.intro hsp (And.intro htp (And.intro hsl (And.intro htl (And.intro hsh (And.intro hr (And.intro hxl hpl))))))))
  have hta : ∀ (x : Value) (W : World), (Instr.typeAssert (.iface 88 x) 20 88 false).run Try.prog W = .ok x W := fun x W => assert_let x W
  have hfm : ∀ (a b c d e f g h : Value) (W : World), (Instr.field 88 (.agg #[a, b, c, d, e, f, g, h]) 1).run Try.prog W = .ok (.agg #[b, c, d, e, f, g, h]) W := field_msg
  have hml : ms.length ≤ 9223372036854775807 := by omega
  clear hp ho hb hd hsp htp hsl htl hsh hr hpm hh hxl hlm hnet hgr bg
  go_enter Try.func40, Try.ntmps40
  go_wp2_with fail
  refine HLn.mono ?_
  rintro e w1 ⟨rfl, hw⟩
  rw [hw]
  clear hw w1 HLn q0
  go_wp2
  go_loopw [3] (fun r wr => ∃ (k : Nat) (au : Option Addr) (cu : Nat) (v : Value) (ls' : List LetD), k ≤ ms.length ∧ r = .slice au k cu ∧ ListI w wr pb S ms k au cu v ls') (fun r _ => ms.length - slLen r)
  case atStart => exact ⟨0, _, _, _, _, Nat.zero_le _, rfl, I0⟩
  case round =>
    clear I0 hmk
    obtain ⟨k, au, cu, v1, l1, hk, rfl, I⟩ := hrel
    obtain ⟨a1, c1, rfl⟩ := slown_val I.own
    have hl1 : l1.length = ms.length - k := by rw [I.perm.length_eq, List.length_drop]
    have q0 : wr.cell? ⟨pb, 0, none⟩ = some (.slice a1 (ms.length - k) c1) := by rw [cell_of_row wr pb 0 _ _ (0, 0) I.row, ← hl1]; rfl
    have HLn := postLen_any a1 (ms.length - k) c1 wr (by unfold maxLen; omega)
    by_cases hlt : k < ms.length
    · obtain ⟨m, hmx⟩ : ∃ m, ms[k]? = some m := ⟨_, List.getElem?_eq_getElem hlt⟩
      have hdr : ms.drop k = m :: ms.drop (k + 1) := by
        obtain ⟨h1, rfl⟩ := List.getElem?_eq_some_iff.1 hmx
        exact List.drop_eq_getElem_cons h1
      obtain ⟨hb, hd, hsp, htp, hsl, htl, hsh, hr, hxl, hpl'⟩ := HH.out
      obtain ⟨g, rfl, hSg, -⟩ := post_shape I.own (by omega)
      have hpm1 := I.perm
      rw [hdr] at hpm1
      have hrd : Rising (m :: ms.drop (k + 1)) := by rw [← hdr]; exact List.Pairwise.drop hr
      have HP := heapPop_any pb S g c1 l1 (ms.drop (k + 1)) m wr I.row hsp I.own (by omega) (fun u hu => hsh u (List.mem_of_mem_drop (I.perm.mem_iff.1 hu))) hrd hpm1 I.heap
      obtain ⟨p1, p2, p3, p4, p5, pa, pn, pc, p7, hml2⟩ := hsh m (List.mem_of_getElem? hmx)
      have HTK : Hid (flatL (ms.take k) ++ m.2 = flatL (ms.take (k + 1))) := by unfold Hid; rw [List.take_add_one, hmx]; simp [flatL]
      have hpos : (0 : Int) < ((ms.length - k : Nat) : Int) := by omega
      have HI : Hid _ := And.intro I hSg
      have H3 : Hid _ := And.intro hsl hpl'
      obtain ⟨mn, ml⟩ := m
      simp only at hml2
      subst hml2
      clear hb hd hsp htp hsl htl hsh hr hxl hpl' hpm1 hrd hdr hmx I hSg hl1
      go_wp2_with fail
      refine HLn.mono ?_
      rintro e w1 ⟨rfl, hw⟩
      rw [hw]
      clear hw w1 HLn q0
      go_wp2_with fail
      refine HP.mono ?_
      rintro e w2 ⟨l2, rfl, r1, r2, r3, r4, r5⟩
      obtain ⟨I, hSg⟩ := HI.out
      have CH : Chg (fun b => S b ∨ b = pb) wr w2 := r5.mono fun b hb => hb.imp (fun e => by rw [e]; exact hSg) id
      have net2 := net_chg I.net CH H3.out.1 H3.out.2
      have sz2 : w.heap.size ≤ w2.heap.size := Nat.le_trans I.sz CH.size
      have hrA : (w2.alloc (.cells #[.int .i64 p1, .int .i64 p2, .int .i64 p3, .int .i64 p4, .int .i64 p5, .slice pa pn pc, .int .i64 p7] 27)).ownsRow w.heap.size 27 7 (.slice au k cu) k (flatL (ms.take k)) := orow_keep net2 fun g hg => by
        have hl := World.ownsRow.lt net2 g hg
        rw [Below.heap_alloc _ _ _ hl.2]
      have hbs : w.heap.size ≤ (w2.alloc (.cells #[.int .i64 p1, .int .i64 p2, .int .i64 p3, .int .i64 p4, .int .i64 p5, .slice pa pn pc, .int .i64 p7] 27)).heap.size := by simp; omega
      have HR : Hid _ := And.intro r1 (And.intro r2 (And.intro r3 (And.intro r4 (And.intro (I.chg.trans CH) net2))))
      clear I hSg r1 r2 r3 r4 r5 CH net2 HP HI
      go_wp2_with (at_builtin; refine wpList_append_own _ rfl _ _ 24 rfl w.heap.size 27 ti (.agg #[.int .i64 0, .int .i64 0, .int .i64 0, .int .i64 0, .int .i64 0, .slice none 0 0, .int .i64 0]) 7 72 Try.underlying24 hi hz0 hz1 hz2 rfl (by decide) _ _ _ rfl hrA ⟨w2.heap.size, 0, none⟩ 1 1 [.int .i64 p1, .int .i64 p2, .int .i64 p3, .int .i64 p4, .int .i64 p5, .slice pa pn pc, .int .i64 p7] rfl rfl ?c1 ?c2 ?c3 ?c4 ?c5 ?_)
      case c1 => exact cells_news w2 _ _
      case c2 => exact one_7 _ _ _ _ _ _ _ _ _
      case c3 => unfold maxLen; omega
      case c4 => omega
      case c5 => exact hbs
      intro v' w3 hown' hgrow hnil
      obtain ⟨g', cap', rfl⟩ := owns_shape hown'
      have NI : Hid (ListI w w3 pb S ms (k + 1) (some ⟨g', 0, none⟩) cap' (.slice (some ⟨g, 0, none⟩) l2.length c1) l2) := by
        obtain ⟨r1, r2, r3, r4, CH, net2⟩ := HR.out
        have htk := HTK.out
        rw [htk] at hown'
        have hz3 : w2.heap.size + 1 ≤ w3.heap.size := by have := hgrow.size; simpa using this
        have kp : ∀ j, j < w.heap.size → w3.heap[j]? = w2.heap[j]? := fun j hj => by
          rw [hgrow.block j (by simp; omega) (fun e => ?_), Below.heap_alloc _ _ _ (by omega)]
          have := (World.ownsRow.lt net2 j (by simpa using e.symm)).1
          omega
        refine ⟨(kp pb H3.out.2).trans r1, postR.own_keep r2 (fun j hj _ => kp j (H3.out.1 j hj)), r3, r4, hown', ⟨hgrow.os.trans CH.os, hgrow.tape.trans CH.tape, hgrow.output.trans CH.output, by omega, fun j hj hn => (kp j hj).trans (CH.block j hj hn)⟩, by omega⟩
      clear hown' hgrow hnil HR hrA hbs HTK
      go_wp2
      go_roundw
      case rel => exact ⟨k + 1, _, _, _, _, by omega, rfl, NI.out⟩
      case measure => simp [slLen]; omega
    · have hkn : k = ms.length := by omega
      subst hkn
      have HI : Hid _ := I
      have hz : ms.length - ms.length = 0 := by omega
      rw [hz] at HLn q0
      clear I hl1
      go_wp2_with fail
      refine HLn.mono ?_
      rintro e w1 ⟨rfl, hw⟩
      rw [hw]
      clear hw w1 HLn q0
      go_wp2
      go_ret
      obtain ⟨hb, hd, hsp, htp, hsl, htl, hsh, hr, hxl, hpl'⟩ := HH.out
      obtain ⟨i1, i2, i3, i4, i5, i6, i7⟩ := HI.out
      rw [List.take_length] at i5
      rw [hxl] at i5 ⊢
      refine ⟨_, _, rfl, ⟨_, flatL ms, T, rfl, row_base i5 (fun _ _ => Nat.zero_le _), fun g hg => ?_, fun k hk => .inl hk, lown_keep hb (i6.keeps ?_)⟩, i6⟩
      · have hl := World.ownsRow.lt i5 g hg
        exact ⟨.inr hl, fun ht => by have := htl g ht; omega⟩
      · rintro k hk (hx | hx)
        · exact hd k hx hk
        · subst hx
          exact htp hk
end Go.Proofs.Ytfflmbpjolgghaa
