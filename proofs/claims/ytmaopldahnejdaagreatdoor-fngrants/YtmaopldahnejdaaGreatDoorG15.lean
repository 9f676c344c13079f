import Derived.Test.YtmaopldahnejdaaGreatDoorG00Box
import Derived.Test.YtmaopldahnejdaaGreatDoorG13
namespace Go.Proofs.YtmaopldahnejdaaGreatDoor
set_option maxHeartbeats 4000000
set_option maxRecDepth 20000
open Go.ChangeShapes Go.WideShapes Go.ChangeAt Go.RowKit
set_option linter.unusedVariables false
variable {α : Type}
theorem appR_sep {base : Nat} {e : TypeId} {R : Rep α} {S T : zAN} {w w2 : World} {o : Obj} {v v' : Value} {xs : List α} {c : List Value} {x : α} (hty : e ∉ R.tys) (h : (slR e R).own w S [v] xs) (y : R.own w T c x) (hd : Dis S T) (hSb : ∀ k, S k → base ≤ k) (hTb : ∀ k, T k → base ≤ k)
    (happ : ∀ b, w.ownsRow base e R.size v xs.length b → w2.ownsRow base e R.size v' (xs.length + 1) (b ++ c)) (hg : (w.alloc o).grownBy w2 v.ownBlock) :
    (slR e R).own w2 (rng base w2.heap.size) [v'] (xs ++ [x]) ∧ Chg (Old w S) w w2 := by
 obtain ⟨v1, b, F, B, G, f, s, D⟩ := zFV h;simp only [List.cons.injEq, and_true] at B;subst B;have m := happ b (zEr G fun g h => hSb g (f g h).1.1);have y := R.own_tight (zFV y);have lt := zEq D;have s2 : w.heap.size + 1 ≤ w2.heap.size := by have := hg.size; simpa using this
 have a : ∀ k, k < w.heap.size → v.ownBlock ≠ some k → w2.heap[k]? = w.heap[k]? := fun k hk l => by
  rw [hg.block k (by simp; omega) (fun e => l e.symm), Below.heap_alloc w o k hk]
 have E := zCP (w' := w2) lt fun k hk j => a k j (fun e => (f k e).2 hk.1);have C := R.own_keep (w' := w2) y fun k hk j => a k j (fun e => hd k (f k e).1.1 hk.1.1);refine ⟨⟨v', b ++ c, (fun k => (F k ∧ ∃ d t, t ∈ R.tys ∧ w.heap[k]? = some (.cells d t (0, 0))) ∨ (Old w T k ∧ ∃ d t, t ∈ R.tys ∧ w.heap[k]? = some (.cells d t (0, 0)))), rfl, by rw [List.length_append]; exact zEr m (fun _ _ => Nat.zero_le _), fun g hg' => ?_, ?_, zEI E C ?_ (fun k h => .inl h) (fun k h => .inr h)⟩, ?_⟩
 ·obtain ⟨d, q⟩ := zDE m hg';have n := World.ownsRow.lt m g hg';refine ⟨⟨n.1, n.2⟩, ?_⟩;have r : (∃ d t, t ∈ R.tys ∧ w.heap[g]? = some (.cells d t (0, 0))) → v.ownBlock ≠ some g → False := by
   rintro ⟨A, t, H, z⟩ l;have j : g < w.heap.size := (ltH z);have := a g j l;rw [q, z] at this;simp at this
   rw [this.2] at hty;exact hty H
  rintro (⟨i, p⟩ | ⟨i, p⟩)
  ·exact r p (fun e => (f g e).2 i)
  ·exact r p (fun e => hd g (f g e).1.1 i.1)
 ·rintro k (⟨i, _⟩ | ⟨i, _⟩)
  ·exact ⟨hSb k (s k i).1, by have := (s k i).2; omega⟩
  ·exact ⟨hTb k i.1, by have := i.2; omega⟩
 ·rintro k ⟨i, _⟩ ⟨p, _⟩;exact hd k (s k i).1 p.1
 ·exact ⟨hg.os, hg.tape, hg.output, by omega, fun k hk hn => a k hk (fun e => hn (f k e).1)⟩
theorem zGk {P : Program} {w : World} {ops : Array Oper} {rest : List Oper} {o : Oper} {a : Act} {Q : Exit → Act → World → Prop} (hgd : o.guard = none) (s x : Operand) (t : TypeId)
    (ho : o.op = .call { callee := .builtin .append, args := #[s, x], argTypes := #[t, t] })
    (R : Rep α) (e : TypeId) (i : TypeInfo) (z : Value) (bytes : Nat) (ht : P.underlying t = some (.slice e)) (hi : P.info? e = some i) (hz : i.zero = some z) (hsize : i.size = R.size) (hby : i.bytes = bytes) (hzs : z.cells.size = R.size) (hsz : 0 < R.size) (hty : e ∉ R.tys)
    (base : Nat) (S T : zAN) (v : Value) (xs : List α) (c : List Value) (y : α) (cc : Nat) (hs : a.eval s = v) (qb : Nat) (hx : a.eval x = sL (some ⟨qb, 0, none⟩) 1 cc) (hq : qb = w.heap.size)
    (h : (slR e R).own w S [v] xs) (hy : R.own w T c y) (hd : Dis S T) (hSb : ∀ k, S k → base ≤ k) (hTb : ∀ k, T k → base ≤ k) (hb : base ≤ w.heap.size) (hone : ∀ u ∈ c, u.oneCell' = true) (hlen : xs.length + 1 ≤ maxLen) (hbytes : (xs.length + 1) * bytes ≤ 140737488355328)
    (k : ∀ q f w2, (slR e R).own w2 (rng base w2.heap.size) [sL (some ⟨q, 0, none⟩) (xs.length + 1) f] (xs ++ [y]) → Chg (Old w S) w w2 → wpList P ops Q rest (a.put o.dst (sL (some ⟨q, 0, none⟩) (xs.length + 1) f)) w2) :
    wpList P ops Q (o :: rest) a (w.alloc (.cells c.toArray e)) := by
 subst hq;have C := h;obtain ⟨v1, b, S', A, G, p, E, r⟩ := C;simp only [List.cons.injEq, and_true] at A;subst A;have j : w.ownsRow base e R.size v xs.length b := zEr G fun g hg => hSb g (p g hg).1;have m : (w.alloc (.cells c.toArray e)).ownsRow base e R.size v xs.length b := zDF j fun g hg => by
  have r := World.ownsRow.lt j g hg;rw [Below.heap_alloc _ _ _ r.2]
 have n : c.length = 1 * R.size := by rw [R.rd_len (R.own_rd hy)]; omega
 refine wpList_append_own (w.alloc (.cells c.toArray e)) hgd s x t ho base e i z R.size bytes ht hi hz hsize hby hzs hsz v xs.length b hs m ⟨w.heap.size, 0, none⟩ 1 cc c hx n (zFk w c e) hone hlen hbytes (by simp; omega) ?_;intro v' w9 d l B;obtain ⟨q, f, rfl⟩ := zFj d;obtain ⟨F, D⟩ := appR_sep (base := base) (e := e) (R := R) hty h hy hd hSb hTb (fun rows2 hr2 => by rw [zE9 hr2 j]; exact d) l;exact k _ _ _ F D
set_option linter.unusedSimpArgs false
theorem below_by {B : Nat} {w0 w1 w2 : World} {S : zAN} (h : Below B w0 w1) (hB : B ≤ w1.heap.size) (n : Chg (Old w1 S) w1 w2) (hs : ∀ k, S k → B ≤ k) : Below B w0 w2 :=
 ⟨n.os.trans h.os, n.tape.trans h.tape, n.output.trans h.output, Nat.le_trans h.size n.size, fun j hj => (n.block j (Nat.lt_of_lt_of_le hj hB) (fun q => by have := hs j q.1; omega)).trans (h.block j hj)⟩
theorem zCc {α : Type} {P : Program} {w0 wr w1 : World} {ops : Array Oper} {rest : List Oper} {o : Oper} {a : Act} {Q : Exit → Act → World → Prop} (hgd : o.guard = none) (s x : Operand) (t : TypeId)
    (ho : o.op = .call { callee := .builtin .append, args := #[s, x], argTypes := #[t, t] })
    (R : Rep α) (e : TypeId) (i : TypeInfo) (z : Value) (bytes : Nat) (ht : P.underlying t = some (.slice e)) (hi : P.info? e = some i) (hz : i.zero = some z) (hsize : i.size = R.size) (hby : i.bytes = bytes) (hzs : z.cells.size = R.size) (hsz : 0 < R.size) (hty : e ∉ R.tys)
    (v : Value) (xs : List α) (c : List Value) (y : α) (cc : Nat) (hs : a.eval s = v) (qb : Nat) (hx : a.eval x = sL (some ⟨qb, 0, none⟩) 1 cc) (hq : qb = w1.heap.size)
    (M : zAD (slR e R) w0 wr [v] xs) (hb : Bl wr w1) (Y : R.own w1 (rng wr.heap.size w1.heap.size) c y) (hone : ∀ u ∈ c, u.oneCell' = true) (hlen : xs.length + 1 ≤ maxLen) (hbytes : (xs.length + 1) * bytes ≤ 140737488355328)
    (k : ∀ f b d, zAD (slR e R) w0 d [sL (some ⟨f, 0, none⟩) (xs.length + 1) b] (xs ++ [y]) → Chg (rng w0.heap.size w1.heap.size) w1 d → wpList P ops Q rest (a.put o.dst (sL (some ⟨f, 0, none⟩) (xs.length + 1) b)) d) :
    wpList P ops Q (o :: rest) a (w1.alloc (.cells c.toArray e)) := by
 have l := M.2.size;have g := zAa M.2 hb;refine zGk hgd s x t ho R e i z bytes ht hi hz hsize hby hzs hsz hty w0.heap.size (rng w0.heap.size wr.heap.size) (rng wr.heap.size w1.heap.size) v xs c y cc hs qb hx hq (own_next M.1 hb) Y (zFe (.inl (Nat.le_refl _))) (fun k hk => hk.1) (fun k hk => Nat.le_trans l hk.1) g.size hone hlen hbytes ?_;intro f b d m j;exact k f b d ⟨m, below_by g g.size j (fun k hk => hk.1)⟩ (j.mono (fun k hk => ⟨hk.1.1, hk.2⟩))
theorem zCz {α : Type} {e : TypeId} {R : Rep α} (w : World) (cur : Array Value) (n : Nat) (hm : n ≤ maxLen) (hs : cur.size = n * R.size) : zAD (slR e R) w (w.alloc (.cells cur e)) [sL (some ⟨w.heap.size, 0, none⟩) 0 n] [] := by
 refine ⟨⟨_, [], fun _ => False, rfl, World.ownsRow_made (base := 0) (e := e) (size := R.size) w cur n (Nat.zero_le _) hm hs, fun g hg => ?_, fun _ h => h.elim, rfl⟩, zAg w _⟩;simp [Value.ownBlock] at hg
 subst hg;exact ⟨⟨Nat.le_refl _, by simp⟩, fun h => h⟩
theorem zBt (c : Int) (w : World) : Calls Tryz.prog 86 #[.bool true, nI c] w fun e w' => e = .returned (.tuple #[]) ∧ w' = w := by
 go_enter Tryz.func86, Tryz.ntmps86;go_wp2;first
  | exact bodyPost_end (results_none rfl _ _ _) rfl ⟨rfl, rfl⟩
  | (refine bodyPost_end (v := .tuple #[]) (by simp [results, Tryz.results86, go_sem]) rfl ⟨rfl, rfl⟩)
theorem zBU (c : Int) (w : World) : Calls Tryz.prog 86 #[.bool false, nI c] w fun e w' => e = .panicked [{ v := .iface 101 (nI c), recovered := false }] ∧ w' = w := by
 go_enter Tryz.func86, Tryz.ntmps86;go_wp2;exact ⟨rfl, rfl, rfl⟩
theorem zCm (k rd tq kn : Int) (ua : Option Addr) (un uc : Nat) (o s kd f l mk : Int) (b : Bool) (va : Option Addr) (vn vc : Nat) (w : World) :
    Calls Tryz.prog 148 #[.agg #[nI k, sL ua un uc, nI o, nI s, .bool b, nI kd, nI f, nI l, nI mk, sL va vn vc], nI rd, nI tq, nI kn] w fun e w' => e = .returned (.agg #[nI rd, nI 4, nI tq, nI kn, nI k, sL none 0 0, nI 0]) ∧ Bl w w' := by
 have a : Hid (∀ x y, Bl w ((w.alloc x).alloc y)) := fun x y => zAa (zAg w x) (zAg _ y);go_enter Tryz.func148, Tryz.ntmps148;go_wp2;first
  | (go_ret
     exact ⟨rfl, a.out _ _⟩)
  | (refine bodyPost_ret (v := .agg #[.int .i64 rd, .int .i64 4, .int .i64 tq, .int .i64 kn, .int .i64 k, .slice none 0 0, .int .i64 0]) (by simp [results, Tryz.results148, go_sem]) rfl ⟨rfl, ?_⟩
     exact a.out _ _)
theorem zH9 (o s kd f l mk : Int) (b : Bool) (va : Option Addr) (vn vc : Nat) (w : World) :
    Calls Tryz.prog 150 #[.agg #[nI o, nI s, .bool b, nI kd, nI f, nI l, nI mk, sL va vn vc]] w fun e w' => e = .returned (.agg #[nI o, nI s, .bool false, nI 0, nI 0, nI 0, nI 0, sL none 0 0]) ∧ Bl w w' := by
 have a : Hid (∀ x y, Bl w ((w.alloc x).alloc y)) := fun x y => zAa (zAg w x) (zAg _ y);go_enter Tryz.func150, Tryz.ntmps150;go_wp2;first
  | (go_ret
     exact ⟨rfl, a.out _ _⟩)
  | (refine bodyPost_ret (v := .agg #[.int .i64 o, .int .i64 s, .bool false, .int .i64 0, .int .i64 0, .int .i64 0, .int .i64 0, .slice none 0 0]) (by simp [results, Tryz.results150, go_sem]) rfl ⟨rfl, ?_⟩
     exact a.out _ _)
theorem zIr (c : Int) (w : World) :
    Calls Tryz.prog 165 #[nI c] w fun e w' => e = .returned (.agg #[nI 0, nI c]) ∧ Bl w w' := by
 have a : Hid (∀ x, Bl w (w.alloc x)) := fun x => zAg w x;go_enter Tryz.func165, Tryz.ntmps165;go_wp2;first
  | (go_ret
     exact ⟨rfl, a.out _⟩)
  | (refine bodyPost_ret (v := .agg #[.int .i64 0, .int .i64 c]) (by simp [results, Tryz.results165, go_sem]) rfl ⟨rfl, ?_⟩
     exact a.out _)
open Go.RowKit
def zFM (o : Oper) : Oper := { o with op := .move (.const (.bool false)) }
def zES : List Oper → Oper
 | [] => { dst := none, op := .move (.const (.bool false)), type := 0, pos := "", after := #[], guard := none }
 | [o] => o
 | _ :: o :: r => zES (o :: r)
theorem zHA : ∀ {l : List Oper}, l ≠ [] → l.dropLast ++ [zES l] = l
 | [], h => (h rfl).elim
 | [o], _ => rfl
 | p :: o :: r, _ => by
  have := zHA (l := o :: r) (by simp);rw [List.dropLast_cons_of_ne_nil (by simp), List.cons_append, zES, this]
def zF0 (l : List Oper) (o : Oper) : Bool :=
 (List.range l.length).all (fun i => o.after.any (fun e => e.on == i && Region.binds .any e)) && (List.range (l.length + 1)).all (fun i => match (l ++ [o])[i]? with
  | none => true
  | some p => p.after.all (fun e => decide (e.on < i))) && o.guard.isNone && o.dst.isNone
section
variable {P : Program} {C : World → Prop} {l : List Oper} {o : Oper}
theorem zLs {i : Nat} (h : i ≠ l.length) : (l ++ [zFM o]).toArray[i]? = (l ++ [o]).toArray[i]? := by
 simp only [List.getElem?_toArray, List.getElem?_append];by_cases a : i < l.length
 ·rw [if_pos a, if_pos a]
 ·rw [if_neg a, if_neg a, List.getElem?_eq_none (by simp; omega), List.getElem?_eq_none (by simp; omega)]
theorem zF1 (p : Oper) : (l ++ [p]).toArray[l.length]? = some p := by simp
theorem zFs {listed : Array Bool} {j : Nat} : j ∈ Region.ready .any (l ++ [zFM o]).toArray listed ↔ j ∈ Region.ready .any (l ++ [o]).toArray listed := by
 rw [mem_ready, mem_ready];by_cases h : j = l.length
 ·subst h;rw [zF1, zF1];constructor
  ·rintro ⟨a, p, b, c⟩;cases b;exact ⟨a, o, rfl, c⟩
  ·rintro ⟨a, p, b, c⟩;cases b;exact ⟨a, zFM o, rfl, c⟩
 ·rw [zLs h]
theorem zIs (ts : Array Value) : yielded (l ++ [zFM o]).toArray ts = yielded (l ++ [o]).toArray ts := by
 funext j
 unfold yielded;by_cases h : j = l.length
 ·subst h;rw [zF1, zF1];rfl
 ·rw [zLs h]
theorem zGT {listed : Array Bool} (hL : zF0 l o = true) (hs : listed.size = l.length + 1) (hn : listed.getD l.length true = false) : ∃ j, j ∈ Region.ready .any (l ++ [o]).toArray listed := by
 simp only [zF0, Bool.and_eq_true, List.all_eq_true, List.mem_range] at hL;obtain ⟨⟨⟨-, p⟩, -⟩, -⟩ := hL;have g : ∀ k, k ≤ l.length → (∀ i, i < k → listed.getD i true = true) → ∃ j, j ∈ Region.ready .any (l ++ [o]).toArray listed := by
  intro k;induction h : l.length - k generalizing k with
  | zero =>
   intro r a;have e : k = l.length := by omega
   subst e;refine ⟨l.length, mem_ready.2 ⟨hn, o, zF1 o, fun e he _ => ?_⟩⟩;have d := p l.length (by omega);rw [show (l ++ [o])[l.length]? = some o from by simp] at d;have c := Array.all_eq_true_iff_forall_mem.1 d e he;simp only [decide_eq_true_eq] at c;have f := a e.on c;rw [Array.getD_eq_getD_getElem?, Array.getElem?_eq_getElem (by omega)] at f ⊢;exact f
  | succ m ih =>
   intro r a;by_cases q : listed.getD k true = true
   ·exact ih (k + 1) (by omega) (by omega) fun i hi => by
      by_cases n : i = k
      ·rw [n];exact q
      ·exact a i (by omega)
   ·have b : k < (l ++ [o]).length := by simp; omega
    refine ⟨k, mem_ready.2 ⟨by simpa using q, (l ++ [o])[k], by simp [List.getElem?_eq_getElem b], fun e he _ => ?_⟩⟩;have d := p k (by simp at b; omega);rw [List.getElem?_eq_getElem b] at d;have c := Array.all_eq_true_iff_forall_mem.1 d e he;simp only [decide_eq_true_eq] at c;have f := a e.on c;rw [Array.getD_eq_getD_getElem?, Array.getElem?_eq_getElem (by simp at b; omega)] at f ⊢;exact f
 exact g 0 (Nat.zero_le _) (fun i hi => by omega)
theorem zKk {listed : Array Bool} (hL : zF0 l o = true) (hs : listed.size = l.length + 1) (hr : l.length ∈ Region.ready .any (l ++ [o]).toArray listed) : Region.ready .any (l ++ [o]).toArray (listed.setIfInBounds l.length true) = [] := by
 simp only [zF0, Bool.and_eq_true, List.all_eq_true, List.mem_range] at hL;obtain ⟨⟨⟨m, -⟩, -⟩, -⟩ := hL;obtain ⟨hn, p, k, c⟩ := mem_ready.1 hr;rw [zF1] at k;cases k;refine List.eq_nil_iff_forall_not_mem.2 fun j hj => ?_;obtain ⟨a, -⟩ := mem_ready.1 hj;by_cases g : j = l.length
 ·subst g;rw [Array.getD_eq_getD_getElem?, Array.getElem?_setIfInBounds_self_of_lt (by omega)] at a;simp at a
 ·rw [Array.getD_eq_getD_getElem?, Array.getElem?_setIfInBounds_ne (by omega)] at a;by_cases f : j < l.length
  ·obtain ⟨i, n, b⟩ := Array.any_eq_true.1 (m j f);have q := Array.getElem_mem n;simp only [Bool.and_eq_true, beq_iff_eq] at b;have d := c _ q b.2;rw [b.1, Array.getD_eq_getD_getElem?] at d;rw [Array.getElem?_eq_getElem (by omega)] at d a;simp at d a
   rw [d] at a;cases a
  ·rw [Array.getElem?_eq_none (by omega)] at a;simp at a
theorem zKl {Q : Act → Prop} {Q' : Exit → Act → World → Prop} (hL : zF0 l o = true) (hQ : ∀ a w, C w → Q a → o.wp P a w (fun a' w' => Q' .normal a' w') Q') : ∀ (c : Nat) (b : Array Bool) (a : Act) (w : World), C w → b.size = l.length + 1 → b.getD l.length true = false →
    wpAnyQ P .any (l ++ [zFM o]).toArray C Q c b a → wpAny P .any (l ++ [o]).toArray Q' c b a w := by
 have y : o.guard = none ∧ o.dst = none := by
  simp only [zF0, Bool.and_eq_true] at hL;exact ⟨Option.isNone_iff_eq_none.1 hL.1.2, Option.isNone_iff_eq_none.1 hL.2⟩
 intro c;induction c with
 | zero =>
  intro b a w A q s h;obtain ⟨j, g⟩ := zGT hL q s;rw [← zFs, h.1] at g;cases g
 | succ c ih =>
  intro b a w A q s h;refine ⟨fun h0 => ?_, fun i hi => ?_⟩
  ·obtain ⟨j, g⟩ := zGT hL q s;rw [h0] at g;cases g
  ·have p := h.2 i (zFs.2 hi);by_cases m : i = l.length
   ·subst m;have d := zKk hL q hi;have k : Region.ready .any (l ++ [zFM o]).toArray (b.setIfInBounds l.length true) = [] := List.eq_nil_iff_forall_not_mem.2 fun j g => by
     rw [zFs, d] at g;cases g
    have z : Q a := by
     unfold qOp at p;rw [zF1] at p;have n : Region.wanted (zFM o) (yielded (l ++ [zFM o]).toArray a.tmps) = true := by
      unfold Region.wanted;simp [zFM, y.1]
     simp only [n, if_true] at p;obtain ⟨v, -, r⟩ := p;have e : a.put (zFM o).dst v = a := by
      have : (zFM o).dst = none := y.2;rw [this];rfl
     rw [e] at r;cases c with
     | zero => exact r.2
     | succ f => exact r.1 k
    unfold wpOp;rw [zF1];have n : Region.wanted o (yielded (l ++ [o]).toArray a.tmps) = true := by
     unfold Region.wanted;simp [y.1]
    simp only [n, if_true];refine .inl (Oper.wp_mono (fun a' w' h' => ?_) (hQ a w A z));cases c with
    | zero => exact ⟨d, h'⟩
    | succ f => exact ⟨fun _ => h', fun j g => by rw [d] at g; cases g⟩
   ·refine wpOp_of_qOp (C := C) A (fun a' w' hw' r => ih (b.setIfInBounds i true) a' w' hw' (by simpa using q) (by rw [Array.getD_eq_getD_getElem?, Array.getElem?_setIfInBounds_ne m, ← Array.getD_eq_getD_getElem?]; exact s) r) ?_;unfold qOp at p ⊢;rw [zLs m, zIs] at p;exact p
theorem zEk {ops : Array Oper} {Q : Act → Prop} (hg : o.guard = none ∧ o.dst = none) : ∀ (l : List Oper) (a : Act), wpQuiet P ops C Q l a → wpQuiet P ops C Q (l ++ [zFM o]) a
 | [], a, h => by
  have b : Region.wanted (zFM o) (yielded ops a.tmps) = true := by
   unfold Region.wanted;simp [zFM, hg.1]
  show if Region.wanted (zFM o) (yielded ops a.tmps) then (zFM o).quiet P a C (wpQuiet P ops C Q []) else _
  rw [if_pos b];refine ⟨.bool false, fun w hw => ?_, ?_⟩
  ·unfold Oper.quietAt;simp [zFM, execOp, go_sem, Oper.quietUpon]
  ·have : (zFM o).dst = none := hg.2;rw [this];exact h
 | p :: l, a, h => by
  unfold wpQuiet at h;show wpQuiet P ops C Q (p :: (l ++ [zFM o])) a
  unfold wpQuiet;split
  ·rename_i b
   rw [if_pos b] at h;exact Oper.quiet_mono (fun a' h' => zEk hg l a' h') h
  ·rename_i b
   rw [if_neg b] at h;exact zEk hg l _ h
theorem zGl {id : Nat} {Q : Exit → Act → World → Prop} {a : Act} {w : World} {ll : List Oper} (C : World → Prop) (hm : P.follows .mixedOrders = true) (hB : Region.lexB .any (ll.dropLast ++ [zFM (zES ll)]).toArray = true) (hL : zF0 ll.dropLast (zES ll) = true) (hne : ll ≠ []) (h0 : C w.drew)
    (h : Nonempty (Cls C) → wpQuiet P (ll.dropLast ++ [zFM (zES ll)]).toArray (fun w' => ∃ n : Cls C, w' = n.w) (fun a' => ∀ w', C w' → (zES ll).wp P a' w' (fun a'' w'' => Q .normal a'' w'') Q) ll.dropLast a) : (Code.region id ll.toArray true).wp P Q a w := by
 have g : (zES ll).guard = none ∧ (zES ll).dst = none := by
  simp only [zF0, Bool.and_eq_true] at hL;exact ⟨Option.isNone_iff_eq_none.1 hL.1.2, Option.isNone_iff_eq_none.1 hL.2⟩
 simp only [Region.lexB, Bool.and_eq_true] at hB;have d := zEk g _ _ (h ⟨⟨w.drew, h0⟩⟩);have c := wpAnyQ_lex (P := P) (C := fun w' => ∃ n : Cls C, w' = n.w) (md := .any) hB.1 (ll.dropLast ++ [zFM (zES ll)]) 0 (Array.replicate (ll.dropLast ++ [zFM (zES ll)]).toArray.size false) a (by simp) (by simpa using hB.2) d;have b := zKl (P := P) (C := fun w' => ∃ n : Cls C, w' = n.w) (Q' := Q) hL (fun a' w' hw' hQ => hQ w' (by obtain ⟨n, e⟩ := hw'; rw [e]; exact n.h)) _ _ a w.drew ⟨⟨w.drew, h0⟩, rfl⟩ (by simp) (by simp) c;rw [zHA hne] at b;refine wp_region_any hm ?_;have f : (ll.dropLast ++ [zFM (zES ll)]).length = ll.length := by
  have := congrArg List.length (zHA hne);simpa using this
 simpa [f] using b
end
end Go.Proofs.YtmaopldahnejdaaGreatDoor
