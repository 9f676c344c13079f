import Derived.Test.YtmaopldahnejdaaGreatDoorG00Box
import Derived.Test.YtmaopldahnejdaaGreatDoorG01
import Derived.Deep.OwnRows
import Derived.LoopN
import Derived.OrdersIn
import Derived.TacticsIn
namespace Go.Proofs.YtmaopldahnejdaaGreatDoor
set_option maxHeartbeats 1000000
open Go.ChangeShapes Go.WideShapes Go.ChangeAt Go.RowKit
def zA6 (a b c : Int) : Bool := decide (b ≤ a ∧ a ≤ c)
theorem zD7 {k : IntKind} {a b : Int} (h : a = b) : Ending.returned (.int k a) = .returned (.int k b) := by rw [h]
theorem zAJ {a b : Bool} (h : a = b) : Ending.returned (.bool a) = .returned (.bool b) := by rw [h]
theorem zAx (a b c : Int) (w : World) :
    Calls Tryz.prog 58 #[nI a, nI b, nI c] w fun e w' => e = .returned (.bool (zA6 a b c)) ∧ w' = w := by
 by_cases d : b ≤ a
 ·by_cases f : a ≤ c
  all_goals
   go_enter Tryz.func58, Tryz.ntmps58;go_wp2;go_ret
   exact ⟨by simp [zA6, d, f], rfl⟩
 ·go_enter Tryz.func58, Tryz.ntmps58;go_wp2;go_ret
  exact ⟨by simp only [zA6]; congr 2; simp; omega, rfl⟩
theorem zA8 (a b c : Int) (w : World) :
    Calls Tryz.prog 91 #[nI a, nI b, nI c] w fun e w' => e = .returned (.bool (zA6 a b c)) ∧ w' = w := by
 by_cases d : b ≤ a
 ·by_cases f : a ≤ c
  all_goals
   go_enter Tryz.func91, Tryz.ntmps91;go_wp2;go_ret
   exact ⟨by simp [zA6, d, f], rfl⟩
 ·go_enter Tryz.func91, Tryz.ntmps91;go_wp2;go_ret
  exact ⟨by simp only [zA6]; congr 2; simp; omega, rfl⟩
theorem zAa {w w1 w2 : World} (h : Bl w w1) (h2 : Bl w1 w2) : Bl w w2 := h.trans (h2.mono h.size)
theorem Tryz.infoI : (Tryz.prog.info? 2).map (fun i => (i.zero, i.size, i.bytes)) = some (some (nI 0), 1, 8) := by kernel_rfl
def zCW (B : Nat) (w : World) (g cap : Nat) (zs : List Int) : Prop :=
 w.ownsRow B 2 1 (.slice (some ⟨g, 0, none⟩) zs.length cap) zs.length (zs.map (Value.int .i64))
def zCH (w w' : World) (v : Value) (zs : List Int) : Prop :=
 ∃ g cap, v = .slice (some ⟨g, 0, none⟩) zs.length cap ∧ w.heap.size ≤ g ∧ g < w'.heap.size ∧ zCW w.heap.size w' g cap zs ∧ Below w.heap.size w w'
theorem zC5 {B g cap : Nat} {w : World} {zs : List Int} (h : zCW B w g cap zs) : zBr w (some ⟨g, 0, none⟩) zs := zKA h
theorem zDO {w w' : World} {a : Option Addr} {xs : List Int} (h : zBr w a xs) (hb : Bl w w') : zBr w' a xs := by
 rcases h with h | ⟨b, c, f, d⟩
 ·exact .inl h
 ·exact .inr ⟨b, c, f, fun j hj => (hb.cell (World.block_lt_of_cell? w ⟨b, c + j, none⟩ (d j hj))).trans (d j hj)⟩
theorem zC6 {B g cap D : Nat} {w w' : World} {zs : List Int} (h : zCW B w g cap zs) (hb : Below D w w') (hg : g < D) : zCW B w' g cap zs := zDD h hb hg
theorem zFg {B g cap r : Nat} {w w' : World} {zs : List Int} (h : zCW B w g cap zs) (hb : w.grownBy w' (some r)) (hg : g ≠ r) : zCW B w' g cap zs := zKB h hb hg
theorem zCX {B g cap : Nat} {w : World} {zs : List Int} (h : zCW B w g cap zs) : B ≤ g ∧ g < w.heap.size := h.lt g rfl
theorem zFE (w : World) (cs : Array Value) (zs : List Int) (h : cs.toList = zs.map (Value.int .i64)) (hm : zs.length ≤ maxLen) : zCW w.heap.size (w.alloc (.cells cs 2)) w.heap.size zs.length zs := by
 have a : cs.size = zs.length := by rw [← Array.length_toList, h]; simp
 have := World.ownsRow_lit (base := w.heap.size) (e := 2) (size := 1) w cs zs.length (Nat.le_refl _) hm (by simpa using a);rw [h] at this;exact this
theorem zFF (w : World) (cs : Array Value) (zs : List Int) (h : cs.toList = zs.map (Value.int .i64)) (hm : zs.length ≤ maxLen) : zCH w (w.alloc (.cells cs 2)) (sL (some ⟨w.heap.size, 0, none⟩) zs.length zs.length) zs :=
 ⟨_, _, rfl, Nat.le_refl _, by simp, zFE w cs zs h hm, (Below.refl _ _).alloc (Nat.le_refl _) _⟩
theorem zBn {w w1 w2 : World} {v : Value} {zs : List Int} (h : Bl w w1) (h2 : zCH w1 w2 v zs) : zCH w w2 v zs := by
 obtain ⟨g, b, rfl, k, j, f, m⟩ := h2;refine ⟨g, b, rfl, Nat.le_trans h.size k, j, ?_, zAa h m⟩;refine ⟨f.1, ?_⟩;rcases f.2 with c | ⟨l, a, d, c, i, rest⟩
 ·exact .inl c
 ·exact .inr ⟨l, a, d, c, Nat.le_trans h.size i, rest⟩
theorem zCq {w w1 : World} {v' : Value} {o : Obj} {xs : List Int} (h : w1.ownsRow w.heap.size 2 1 v' xs.length (xs.map (Value.int .i64)))
    (hg : (w.alloc o).grownBy w1 (Value.slice (some ⟨w.heap.size, 0, none⟩) 0 0).ownBlock) (hv : v' ≠ sL none 0 0) : zCH w w1 v' xs := by
 rcases h.2 with ⟨rfl, _⟩ | ⟨g, a, f, rfl, c, b, rest⟩
 ·exact absurd rfl hv
 refine ⟨g, a, rfl, c, (ltH b), h, ((Below.refl _ _).alloc (Nat.le_refl _) _).grown hg (by simp) ?_⟩;intro k d;simp [Value.ownBlock] at d
 omega
theorem zFG {w0 w w1 : World} {g cap m : Nat} {zs ys : List Int} {v' : Value} {o : Obj} (hb : Bl w0 w) (ho : zCW w0.heap.size w g cap zs) (hm : (zs ++ ys).length = m)
    (h : w1.ownsRow w0.heap.size 2 1 v' (zs.length + ys.length) (zs.map (Value.int .i64) ++ ys.map (Value.int .i64))) (hg : (w.alloc o).grownBy w1 (some g)) (hv : v' ≠ sL none 0 0) :
    ∃ b a, v' = sL (some ⟨b, 0, none⟩) m a ∧ zCW w0.heap.size w1 b a (zs ++ ys) ∧ Bl w0 w1 := by
 have c := zCX ho;rcases h.2 with ⟨rfl, _⟩ | ⟨b, a, f, rfl, d, hh, rest⟩
 ·exact absurd rfl hv
 refine ⟨b, a, by rw [← hm]; simp, ?_, (hb.alloc hb.size o).grown hg (by simp; have := hb.size; omega) (fun k hk => by cases hk; exact c.1)⟩;unfold zCW;rw [List.map_append, List.length_append];exact h
theorem zFH {w0 w w1 : World} {g cap : Nat} {zs ys : List Int} {v' : Value} (hb : Bl w0 w) (ho : zCW w0.heap.size w g cap zs)
    (h : w1.ownsRow w0.heap.size 2 1 v' (zs.length + ys.length) (zs.map (Value.int .i64) ++ ys.map (Value.int .i64))) (hg : w.grownBy w1 (some g)) (hv : v' ≠ sL none 0 0) : zCH w0 w1 v' (zs ++ ys) := by
 have d := zCX ho;rcases h.2 with ⟨rfl, _⟩ | ⟨f, a, i, rfl, b, c, rest⟩
 ·exact absurd rfl hv
 refine ⟨f, a, by simp, b, (ltH c), ?_, hb.grown hg hb.size (fun k hk => by cases hk; exact d.1)⟩;unfold zCW;rw [List.map_append, List.length_append];exact h
theorem zFh (a : Addr) (xs : List Int) (cap : Nat) (w : World) (h : zBr w (some a) xs) (hm : xs.length ≤ 1048576) :
    Calls Tryz.prog 95 #[sL (some a) xs.length cap] w fun e w' => ∃ v, e = .returned v ∧ zCH w w' v xs := by
 obtain ⟨z, s, n, m, l⟩ := info_parts Tryz.infoI;have g : (w.alloc (.cells #[] 2)).ownsRow w.heap.size 2 1 (sL (some ⟨w.heap.size, 0, none⟩) 0 0) 0 [] := World.ownsRow_lit _ #[] 0 (Nat.le_refl _) (Nat.zero_le _) rfl;go_enter Tryz.func95, Tryz.ntmps95;go_wp2_with (at_builtin; refine wpList_append_own _ rfl _ _ 28 rfl w.heap.size 2 z (nI 0) 1 8 Tryz.underlying28 s n m l rfl (by decide) _ _ _ rfl g a xs.length cap (xs.map (Value.int .i64)) rfl (by simp) ?c1 ?c2 ?c3 ?c4 ?c5 ?_)
 case c1 =>
  intro j u D;obtain ⟨f, rfl⟩ := List.getElem?_eq_some_iff.1 D;simp at f
  rcases h with rfl | ⟨b, k, p, C⟩
  ·simp at f
  simp only [Option.some.injEq] at p;subst p;have q := C j f;rw [show (⟨b, k, none⟩ : Addr).add j = ⟨b, k + j, none⟩ from by simp [Addr.add], World.cell?_alloc_past _ _ _ (World.block_lt_of_cell? w _ q), q];simp [List.getD_eq_getElem?_getD, f]
 case c2 => intro u r; simp at r; obtain ⟨x, _, rfl⟩ := r; rfl
 case c3 => unfold maxLen; omega
 case c4 => omega
 case c5 => simp
 ·intro o y c d i;have A : o ≠ sL none 0 0 := i;have B : Hid (zCH w y o xs) := zCq c d A;clear c d i g;go_wp2;go_ret
  exact ⟨_, rfl, B.out⟩
set_option linter.unusedVariables false
section
variable {α β : Type}
structure Mk (α : Type) where
 cE : α → Nat
 mE : Int → α → α
 cV : α → Nat
 mV : Int → α → α
 bk : α → Nat
def zHV : Mk Int := ⟨fun _ => 1, fun k _ => k, fun _ => 0, fun _ x => x, fun _ => 0⟩
def boolM : Mk Bool := ⟨fun _ => 1, fun k _ => k % 3 == 0, fun _ => 0, fun _ b => b, fun _ => 0⟩
def zEK (M : Mk α) (N : Mk β) : Mk (α × β) :=
 ⟨fun a => M.cE a.1 + N.cE a.2, fun k a => (M.mE k a.1, N.mE (k + M.cE a.1) a.2), fun a => M.cV a.1 + N.cV a.2, fun k a => (M.mV k a.1, N.mV (k + M.cV a.1) a.2), fun a => M.bk a.1 + N.bk a.2⟩
def zBI (M : Mk α) (xs : List α) : Nat := (xs.map M.bk).sum
def slcnt (M : Mk α) (xs : List α) : Nat := (xs.map M.cE).sum
def zKE (M : Mk α) : Int → List α → List α
 | _, [] => []
 | k, x :: xs => M.mE k x :: zKE M (k + M.cE x) xs
def slM (M : Mk α) : Mk (List α) := ⟨slcnt M, zKE M, slcnt M, zKE M, fun xs => xs.length + zBI M xs⟩
theorem zJY {M : Mk α} {xs : List α} {j : Nat} {x : α} (h : xs[j]? = some x) : zBI M (xs.take (j + 1)) = zBI M (xs.take j) + M.bk x := by
 simp [zBI, List.take_add_one, h]
theorem zJZ (M : Mk α) (xs : List α) (j : Nat) : zBI M (xs.take j) ≤ zBI M xs := by
 have : zBI M xs = zBI M (xs.take j) + zBI M (xs.drop j) := by
  conv => lhs; rw [← List.take_append_drop j xs]
  unfold zBI;rw [List.map_append, List.sum_append]
 omega
theorem zKF {M : Mk α} {xs : List α} {j : Nat} {x : α} (h : xs[j]? = some x) : zBI M (xs.take j) + M.bk x ≤ zBI M xs := by
 have h1 := zJY (M := M) h;have h2 := zJZ M xs (j + 1);omega
abbrev zAm : Rep (List Int) := slR 2 zBf
abbrev zDm : Mk (List Int) := slM zHV
theorem zEs {w : World} : ∀ {rows : List Value} {xs : List Int}, lrd zBf w rows xs ↔ rows = xs.map (Value.int .i64) ∧ ∀ x ∈ xs, zA4 x
 | rows, [] => by simp [lrd]
 | rows, x :: xs => by
  constructor
  ·rintro ⟨c1, c2, rfl, ⟨rfl, a⟩, c⟩;obtain ⟨rfl, b⟩ := zEs.1 c;exact ⟨rfl, by simpa using ⟨a, b⟩⟩
  ·rintro ⟨rfl, h⟩;simp at h
   exact ⟨[nI x], xs.map (Value.int .i64), rfl, ⟨rfl, h.1⟩, zEs.2 ⟨rfl, h.2⟩⟩
theorem zFP {w : World} {S : zAN} : ∀ {rows : List Value} {xs : List Int}, lrd zBf w rows xs → zGD zBf w S rows xs
 | rows, [], h => h
 | rows, x :: xs, ⟨c1, c2, e, h1, h2⟩ => ⟨c1, c2, fun _ => False, S, e, h1, zFP h2, fun _ h => h.elim, Sub.refl _, fun _ h _ => h⟩
theorem zAM {w : World} {a : Option Addr} {xs : List Int} (h : zBv zBf w a xs) : zBr w a xs := by
 rcases h with h | ⟨b, c, d, rfl, f, g⟩
 ·exact .inl h
 ·obtain ⟨rfl, _⟩ := zEs.1 f;refine .inr ⟨b, c, rfl, fun j hj => g j _ ?_⟩;simp [List.getD_eq_getElem?_getD, List.getElem?_eq_getElem hj]
theorem zDn {w : World} {a : Option Addr} {xs : List Int} (h : zBv zBf w a xs) : ∀ x ∈ xs, zA4 x := by
 rcases h with rfl | ⟨b, d, c, rfl, f, h2⟩
 ·simp
 ·exact (zEs.1 f).2
theorem zB8 {w w' : World} {v : Value} {zs : List Int} (h : zCH w w' v zs) (h64 : ∀ x ∈ zs, zA4 x) : zAD zAm w w' [v] zs := by
 obtain ⟨g, a, rfl, b, f, c, d⟩ := h;refine ⟨⟨_, zs.map (Value.int .i64), fun _ => False, rfl, zEr c (fun _ _ => Nat.zero_le _), fun g' hg => ?_, fun _ h => h.elim, zFP (zEs.2 ⟨rfl, h64⟩)⟩, d⟩;simp [Value.ownBlock] at hg
 subst hg;exact ⟨⟨b, f⟩, fun h => h⟩
theorem zGE {S : zAN} {B : Nat} {w : World} {g cap : Nat} {zs : List Int} (h : zCW B w g cap zs) (hS : S g) (h64 : ∀ x ∈ zs, zA4 x) : zAm.own w S [sL (some ⟨g, 0, none⟩) zs.length cap] zs := by
 refine ⟨_, zs.map (Value.int .i64), fun _ => False, rfl, zEr h (fun _ _ => Nat.zero_le _), fun g' hg => ?_, fun _ h => h.elim, zFP (zEs.2 ⟨rfl, h64⟩)⟩;simp [Value.ownBlock] at hg
 subst hg;exact ⟨hS, fun h => h⟩
end
def szI (n : Nat) (left : Int) : Int := if (n : Int) ≤ left then left - n else -1
theorem zKG {n : Nat} {left : Int} (h : (n : Int) ≤ left) : szI n left = left - n := by unfold szI; rw [if_pos h]
theorem szI_no {n : Nat} {left : Int} (h : ¬ (n : Int) ≤ left) : szI n left = -1 := by unfold szI; rw [if_neg h]
section
variable {α β : Type}
theorem zDG {e : TypeId} {R : Rep α} {w : World} {S : zAN} {v : Value} {xs : List α} (h : (slR e R).own w S [v] xs) : (v = sL none 0 0 ∧ xs = []) ∨ ∃ g a, v = sL (some ⟨g, 0, none⟩) xs.length a ∧ S g := by
 obtain ⟨v', c, S', b, f, i, hs, hl⟩ := h;simp only [List.cons.injEq, and_true] at b;subst b;rcases f.2 with ⟨rfl, d⟩ | ⟨g, a, j, rfl, rest⟩
 ·exact .inl ⟨rfl, List.eq_nil_of_length_eq_zero d⟩
 ·exact .inr ⟨g, a, rfl, (i g rfl).1⟩
theorem zAB {e : TypeId} {R : Rep α} {w : World} {S : zAN} {v : Value} {xs : List α} (h : (slR e R).own w S [v] xs) : ∃ a c, v = sL a xs.length c := by
 rcases zDG h with ⟨rfl, rfl⟩ | ⟨g, b, rfl, _⟩
 ·exact ⟨none, 0, rfl⟩
 ·exact ⟨_, _, rfl⟩
end
structure Rw where
 g : Nat
 cap : Nat
 xs : List Int
def Rw.v (r : Rw) : Value := .slice (some ⟨r.g, 0, none⟩) r.xs.length r.cap
def zDo (w : World) (a : Option Addr) (xss : List (List Int)) : Prop :=
 xss = [] ∨ ∃ b off, a = some ⟨b, off, none⟩ ∧ ∀ j xs, xss[j]? = some xs → ∃ aj cj, w.cell? ⟨b, off + j, none⟩ = some (.slice aj xs.length cj) ∧ zBr w aj xs
def Inn (lo hi : Nat) (w : World) (rs : List Rw) : Prop :=
 (∀ (i : Nat) (r : Rw), rs[i]? = some r → zCW lo w r.g r.cap r.xs ∧ r.g < hi) ∧ ∀ (i j : Nat) (r s : Rw), rs[i]? = some r → rs[j]? = some s → r.g = s.g → i = j
def Out (lo : Nat) (w : World) (G cap n : Nat) (vs : List Value) : Prop := w.ownsRow lo 28 1 (.slice (some ⟨G, 0, none⟩) n cap) n vs
def OwnM (lo hi : Nat) (w : World) (G cap : Nat) (xss : List (List Int)) : Prop :=
 ∃ rs : List Rw, rs.map Rw.xs = xss ∧ Out lo w G cap xss.length (rs.map Rw.v) ∧ G < hi ∧ Inn lo hi w rs
def zFQ (w w' : World) (v : Value) (xss : List (List Int)) : Prop :=
 ∃ G cap, v = .slice (some ⟨G, 0, none⟩) xss.length cap ∧ w.heap.size ≤ G ∧ G < w'.heap.size ∧ OwnM w.heap.size w'.heap.size w' G cap xss ∧ Below w.heap.size w w'
structure Inside (lo hi : Nat) (w w' : World) : Prop where
 os : w'.os = w.os
 tape : w'.tape = w.tape
 output : w'.output = w.output
 size : w.heap.size ≤ w'.heap.size
 block : ∀ k, k < w.heap.size → (k < lo ∨ hi ≤ k) → w'.heap[k]? = w.heap[k]?
theorem Inside.refl (lo hi : Nat) (w : World) : Inside lo hi w w := ⟨rfl, rfl, rfl, Nat.le_refl _, fun _ _ _ => rfl⟩
theorem Inside.trans {lo hi : Nat} {a b c : World} (h : Inside lo hi a b) (k : Inside lo hi b c) : Inside lo hi a c :=
 ⟨k.os.trans h.os, k.tape.trans h.tape, k.output.trans h.output, Nat.le_trans h.size k.size, fun j hj hr => (k.block j (Nat.lt_of_lt_of_le hj h.size) hr).trans (h.block j hj hr)⟩
theorem zHW {w w' : World} {base e size g n cap : Nat} {xs : List Value} (h : w.ownsRow base e size (sL (some ⟨g, 0, none⟩) n cap) n xs) (hb : w'.heap[g]? = w.heap[g]?) :
    w'.ownsRow base e size (sL (some ⟨g, 0, none⟩) n cap) n xs := by
 refine ⟨h.1, ?_⟩;rcases h.2 with ⟨a, _⟩ | ⟨g', f, d, a, b, c, rest⟩
 ·simp at a
 ·simp only [Value.slice.injEq, Option.some.injEq, Addr.mk.injEq, and_true, true_and] at a;obtain ⟨rfl, rfl⟩ := a;exact .inr ⟨g, cap, d, rfl, b, by rw [hb]; exact c, rest⟩
theorem own_mono {w : World} {B B' e size n : Nat} {v : Value} {xs : List Value} (h : w.ownsRow B e size v n xs) (hb : B' ≤ B) : w.ownsRow B' e size v n xs := by
 refine ⟨h.1, ?_⟩;rcases h.2 with c | ⟨f, a, d, c, b, rest⟩
 ·exact .inl c
 ·exact .inr ⟨f, a, d, c, Nat.le_trans hb b, rest⟩
theorem zHk {w : World} {B g n cap e : Nat} {xs : List Value} (h : w.ownsRow B e 1 (sL (some ⟨g, 0, none⟩) n cap) n xs) : ∃ a, w.heap[g]? = some (.cells a e (0, 0)) := by
 rcases h.2 with ⟨b, _⟩ | ⟨g', d, a, b, f, c, rest⟩
 ·simp at b
 ·simp only [Value.slice.injEq, Option.some.injEq, Addr.mk.injEq, and_true, true_and] at b;obtain ⟨rfl, rfl⟩ := b;exact ⟨_, c⟩
theorem out_ne {lo lo' G cap n g c : Nat} {w : World} {vs : List Value} {zs : List Int} (h : Out lo w G cap n vs) (k : zCW lo' w g c zs) : g ≠ G := by
 rintro rfl;obtain ⟨c1, b⟩ := zHk h;obtain ⟨c2, a⟩ := zHk k;rw [b] at a;simp at a
theorem zHl (lo hi : Nat) (w : World) : Inn lo hi w [] := ⟨by simp, by simp⟩
theorem zFR {lo hi : Nat} {w w' : World} {rs : List Rw} (h : Inn lo hi w rs) (hb : ∀ (i : Nat) (r : Rw), rs[i]? = some r → w'.heap[r.g]? = w.heap[r.g]?) : Inn lo hi w' rs :=
 ⟨fun i r hr => ⟨zHW (h.1 i r hr).1 (hb i r hr), (h.1 i r hr).2⟩, h.2⟩
theorem zEc {lo hi D : Nat} {w w' : World} {rs : List Rw} (h : Inn lo hi w rs) (hb : Below D w w') (hD : hi ≤ D) : Inn lo hi w' rs :=
 zFR h fun i r hr => hb.block _ (Nat.lt_of_lt_of_le (h.1 i r hr).2 hD)
theorem zKH {lo hi x : Nat} {w w' : World} {rs : List Rw} (h : Inn lo hi w rs) (hb : w.grownBy w' (some x)) (hx : ∀ (i : Nat) (r : Rw), rs[i]? = some r → r.g ≠ x) : Inn lo hi w' rs :=
 zFR h fun i r hr => hb.block _ (h.1 i r hr |>.1 |> zCX).2 (fun e => hx i r hr (by simpa using e))
theorem zFI {lo hi hi' : Nat} {w : World} {rs : List Rw} (h : Inn lo hi w rs) (hh : hi ≤ hi') : Inn lo hi' w rs :=
 ⟨fun i r hr => ⟨(h.1 i r hr).1, Nat.lt_of_lt_of_le (h.1 i r hr).2 hh⟩, h.2⟩
theorem inn_out {lo hi lo' G cap n : Nat} {w w' : World} {rs : List Rw} {vs : List Value} (h : Inn lo hi w rs) (ho : Out lo' w G cap n vs) (hb : w.grownBy w' (some G)) : Inn lo hi w' rs :=
 zKH h hb fun i r hr => out_ne ho (h.1 i r hr).1
theorem zHm {lo hi b g cap : Nat} {w : World} {rs : List Rw} {xs : List Int} (h : Inn lo hi w rs) (o : zCW lo w g cap xs) (hg : hi ≤ g) (hg2 : g < b) : Inn lo b w (rs ++ [⟨g, cap, xs⟩]) := by
 refine ⟨fun i r a => ?_, fun i j r s a hs e => ?_⟩
 ·by_cases b : i < rs.length
  ·rw [List.getElem?_append_left b] at a;have := h.1 i r a;exact ⟨this.1, by omega⟩
  ·rw [List.getElem?_append_right (by omega)] at a;by_cases k : i - rs.length = 0
   ·rw [k] at a; simp at a; subst a; exact ⟨o, hg2⟩
   ·rw [List.getElem?_eq_none (by simp; omega)] at a; cases a
 ·have c : ∀ (i : Nat) (r : Rw), (rs ++ [(⟨g, cap, xs⟩ : Rw)])[i]? = some r → (rs[i]? = some r ∧ i < rs.length) ∨ (i = rs.length ∧ r = ⟨g, cap, xs⟩) := by
    intro i r a;by_cases b : i < rs.length
    ·rw [List.getElem?_append_left b] at a;exact .inl ⟨a, b⟩
    ·rw [List.getElem?_append_right (by omega)] at a;by_cases k : i - rs.length = 0
     ·rw [k] at a; simp at a; exact .inr ⟨by omega, a.symm⟩
     ·rw [List.getElem?_eq_none (by simp; omega)] at a; cases a
  rcases c i r a with ⟨f, a2⟩ | ⟨f, rfl⟩ <;> rcases c j s hs with ⟨d, b2⟩ | ⟨d, rfl⟩
  ·exact h.2 i j r s f d e
  ·have := (h.1 i r f).2; simp at e; omega
  ·have := (h.1 j s d).2; simp at e; omega
  ·omega
theorem zFw {w w' : World} {a : Option Addr} {xss : List (List Int)} (h : zDo w a xss) (hb : Bl w w') : zDo w' a xss := by
 rcases h with h | ⟨b, c, f, k⟩
 ·exact .inl h
 ·refine .inr ⟨b, c, f, fun j xs hx => ?_⟩;obtain ⟨i, g, d, l⟩ := k j xs hx;exact ⟨i, g, (hb.cell (World.block_lt_of_cell? w ⟨b, c + j, none⟩ d)).trans d, zDO l hb⟩
theorem zCR {w : World} {a : Option Addr} {xss : List (List Int)} (h : zDo w a xss) {j : Nat} {xs : List Int} (hx : xss[j]? = some xs) :
    ∃ b c d f, a = some ⟨b, c, none⟩ ∧ w.cell? ⟨b, c + j, none⟩ = some (sL d xs.length f) ∧ zBr w d xs := by
 rcases h with rfl | ⟨b, c, i, k⟩
 ·simp at hx
 ·obtain ⟨d, f, g, l⟩ := k j xs hx;exact ⟨b, c, d, f, i, g, l⟩
theorem zKa {w w1 w2 : World} {v : Value} {xss : List (List Int)} (h : Bl w w1) (h2 : zFQ w1 w2 v xss) : zFQ w w2 v xss := by
 obtain ⟨G, a, rfl, j, k, ⟨l, g, d, f, b⟩, m⟩ := h2;have c := h.size;exact ⟨G, a, rfl, Nat.le_trans h.size j, k, ⟨l, g, own_mono d c, f, ⟨fun i r hr => ⟨own_mono (b.1 i r hr).1 c, (b.1 i r hr).2⟩, b.2⟩⟩, zAa h m⟩
theorem zKb (w : World) (k : Nat) (h : k = w.heap.size) : zFQ w (w.alloc (.cells #[] 28)) (sL (some ⟨k, 0, none⟩) 0 0) [] := by
 subst h;refine ⟨_, _, rfl, Nat.le_refl _, by simp, ⟨[], rfl, World.ownsRow_lit (base := w.heap.size) (e := 28) (size := 1) w #[] 0 (Nat.le_refl _) (Nat.zero_le _) rfl, by simp, zHl _ _ _⟩, (Below.refl _ _).alloc (Nat.le_refl _) _⟩
def tot (xss : List (List Int)) : Nat := (xss.map List.length).sum
theorem zJ2 {xss : List (List Int)} {j : Nat} {xs : List Int} (h : xss[j]? = some xs) : tot (xss.take (j + 1)) = tot (xss.take j) + xs.length := by
 simp [tot, List.take_add_one, h]
theorem tot_take (xss : List (List Int)) (j : Nat) : tot (xss.take j) ≤ tot xss := by
 have : tot xss = tot (xss.take j) + tot (xss.drop j) := by
  conv => lhs; rw [← List.take_append_drop j xss]
  unfold tot;rw [List.map_append, List.sum_append]
 omega
theorem zKI {xss : List (List Int)} {j : Nat} {xs : List Int} (h : xss[j]? = some xs) : xs.length ≤ tot xss := by
 have h1 := zJ2 h;have h2 := tot_take xss (j + 1);omega
theorem zDp {α : Type} {l : List α} {j : Nat} (h : j < l.length) : ∃ x, l[j]? = some x := ⟨_, List.getElem?_eq_getElem h⟩
abbrev zBY : Rep (List (List Int)) := slR 28 zAm
abbrev rowsM : Mk (List (List Int)) := slM zDm
theorem zDq {w : World} {a : Option Addr} {xss : List (List Int)} (h : zBv zAm w a xss) : zDo w a xss := by
 rcases h with h | ⟨b, f, g, rfl, l, p⟩
 ·exact .inl h
 ·refine .inr ⟨b, f, rfl, fun j xs hx => ?_⟩;obtain ⟨b', k, c, n, ⟨o, m, rfl, _, _, i⟩, d⟩ := zBH (.inr ⟨b, f, g, rfl, l, p⟩) hx;cases n;have := d 0 _ rfl;rw [show j * zAm.size + 0 = j from Nat.mul_one j] at this;exact ⟨o, m, this, zAM i⟩
open Go.RowKit
structure Cls (C : World → Prop) where
 w : World
 h : C w
theorem zB9 {P : Program} {id : Nat} {Q : Exit → Act → World → Prop} {a : Act} {w : World} {l : List Oper} (C : World → Prop) (hm : P.follows .mixedOrders = true) (hB : Region.lexB .any l.toArray = true) (h0 : C w.drew)
    (h : Nonempty (Cls C) → wpQuiet P l.toArray (fun w' => ∃ n : Cls C, w' = n.w) (fun a' => ∀ w', C w' → Q .normal a' w') l a) : (Code.region id l.toArray true).wp P Q a w :=
 wp_region_quiet (C := fun w' => ∃ n : Cls C, w' = n.w) hm hB ⟨⟨w.drew, h0⟩, rfl⟩ (by
  have := h ⟨⟨w.drew, h0⟩⟩;have e : (fun a' => ∀ w', C w' → Q .normal a' w') = (fun a' => ∀ w', (∃ n : Cls C, w' = n.w) → Q .normal a' w') := by
   funext a'
   exact propext ⟨fun h w' ⟨n, e⟩ => h w' (by rw [e]; exact n.h), fun h w' hc => h w' ⟨⟨w', hc⟩, rfl⟩⟩
  rw [e] at this
  simpa using this)
section
variable {P : Program} {C : World → Prop} {r : Nat}
end
theorem zHX {P : Program} {ops : Array Oper} {C : World → Prop} {Q : Act → Prop} {a : Act} {o : Oper} {rest : List Oper} {j : Nat} {b : Bool} {og : Oper} {d : Tmp} (ht : a.tmps[d]? = some (.bool (!b))) (hg : o.guard = some (j, b)) (ho : ops[j]? = some og) (hd : og.dst = some d)
    (hne : o.dst ≠ some d) (h : ∀ a', a' = a.put o.dst undef → a'.tmps[d]? = some (.bool (!b)) → wpQuiet P ops C Q rest a') : wpQuiet P ops C Q (o :: rest) a := by
 have f : yielded ops a.tmps j = some (!b) := by
  unfold yielded;simp [ho, hd, ht]
 have g : Region.wanted o (yielded ops a.tmps) = false := by
  unfold Region.wanted;simp [hg, f]
 unfold wpQuiet;rw [g];refine h _ rfl ?_;cases c : o.dst with
 | none => exact ht
 | some d' =>
  have : d' ≠ d := fun e => hne (by rw [c, e]);show (a.tmps.setIfInBounds d' undef)[d]? = _
  rw [Array.getElem?_setIfInBounds_ne this];exact ht
theorem hid_act (K : Act → Prop) (a : Act) (h : ∀ A, A = a → K A) : K a := h a rfl
theorem zAE {P : Program} {f : FuncId} {args : Array Value} {C : World → Prop} {n : Cls C} {v : Value} {R : World → Prop} (h : Calls P f args n.w fun e w' => e = .returned v ∧ R w') (hs : ∀ w', C n.w → R w' → C w') :
    Calls P f args n.w fun e w'' => e = .returned v ∧ ∃ m : Cls C, w'' = m.w := h.mono fun _ w' ⟨he, hr⟩ => ⟨he, ⟨w', hs w' n.h hr⟩, rfl⟩
def zKc (s : Int) : Bool := decide (0 ≤ s ∧ s ≤ 255)
def zE5 (i : Int) : Bool := decide (0 ≤ i ∧ i ≤ 7)
theorem zKJ (s : Int) (w : World) :
    Calls Tryz.prog 156 #[nI s] w fun e w' => e = .returned (.bool (zKc s)) ∧ w' = w := by
 by_cases a : 0 ≤ s
 ·by_cases b : s ≤ 255
  all_goals
   go_enter Tryz.func156, Tryz.ntmps156;go_wp2;go_ret
   exact ⟨by simp [zKc, a, b], rfl⟩
 ·go_enter Tryz.func156, Tryz.ntmps156;go_wp2;go_ret
  exact ⟨by simp only [zKc]; congr 2; simp; omega, rfl⟩
theorem zGF (s : Int) (w : World) :
    Calls Tryz.prog 157 #[nI s] w fun e w' => e = .returned (.bool (zE5 s)) ∧ w' = w := by
 by_cases a : 0 ≤ s
 ·by_cases b : s ≤ 7
  all_goals
   go_enter Tryz.func157, Tryz.ntmps157;go_wp2;go_ret
   exact ⟨by simp [zE5, a, b], rfl⟩
 ·go_enter Tryz.func157, Tryz.ntmps157;go_wp2;go_ret
  exact ⟨by simp only [zE5]; congr 2; simp; omega, rfl⟩
theorem zCr (s : Int) (w : World) :
    Calls Tryz.prog 136 #[nI s] w fun e a => e = .returned (.bool (zKc s)) ∧ a = w := by
 go_enter Tryz.func136, Tryz.ntmps136;go_wp2_with (go_at_call 58; refine (zAx _ _ _ _).mono ?_; rintro e a ⟨rfl, rfl⟩)
 go_ret
 exact ⟨rfl, rfl⟩
theorem zDi (s : Int) (w : World) :
    Calls Tryz.prog 137 #[nI s] w fun e a => e = .returned (.bool (zE5 s)) ∧ a = w := by
 go_enter Tryz.func137, Tryz.ntmps137;go_wp2_with (go_at_call 58; refine (zAx _ _ _ _).mono ?_; rintro e a ⟨rfl, rfl⟩)
 go_ret
 exact ⟨rfl, rfl⟩
theorem zFS (i : Int) (h1 : 0 ≤ i) (h2 : i ≤ 7) : wrap64 (2 ^ i.toNat) = 2 ^ i.toNat := by
 have h : i = 0 ∨ i = 1 ∨ i = 2 ∨ i = 3 ∨ i = 4 ∨ i = 5 ∨ i = 6 ∨ i = 7 := by omega
 rcases h with rfl | rfl | rfl | rfl | rfl | rfl | rfl | rfl <;> decide +kernel
theorem zFT (i : Int) (w : World) (h1 : 0 ≤ i) (h2 : i ≤ 7) :
    Calls Tryz.prog 158 #[nI i] w fun e w' => e = .returned (nI (2 ^ i.toNat)) ∧ w' = w := by
 go_enter Tryz.func158, Tryz.ntmps158;go_wp2;go_ret
 exact ⟨zD7 (zFS i h1 h2), rfl⟩
def memB (s i : Int) : Bool := (s / 2 ^ i.toNat) % 2 == 1
def inB (s i : Int) : Bool := zKc s && zE5 i && memB s i
theorem and_fin : ∀ s : Fin 256, ∀ i : Fin 8, (bits BinOp.and IntKind.i64 (s.val : Int) (2 ^ (i.val : Int).toNat) != 0) = memB (s.val : Int) (i.val : Int) := by
 decide +kernel
theorem and_mem (s i : Int) (h7 : 0 ≤ s) (h8 : s ≤ 255) (h5 : 0 ≤ i) (h6 : i ≤ 7) :
    (bits BinOp.and IntKind.i64 s (2 ^ i.toNat) != 0) = memB s i := by
 have := and_fin ⟨s.toNat, by omega⟩ ⟨i.toNat, by omega⟩;simpa [Int.toNat_of_nonneg h7, Int.toNat_of_nonneg h5] using this
theorem tmod_mem (s i : Int) (h7 : 0 ≤ s) : ((s / 2 ^ i.toNat).tmod 2 == 1) = memB s i := by
 unfold memB;rw [Int.tmod_eq_emod_of_nonneg (Int.ediv_nonneg h7 (Int.pow_nonneg (by decide)))]
theorem zKK {s : Int} (h : zKc s = true) : 0 ≤ s ∧ s ≤ 255 := by simpa [zKc] using h
theorem zDP {i : Int} (h : zE5 i = true) : 0 ≤ i ∧ i ≤ 7 := by simpa [zE5] using h
theorem zFi (s i : Int) (w : World) :
    Calls Tryz.prog 135 #[nI s, nI i] w fun e a => e = .returned (.bool (inB s i)) ∧ a = w := by
 cases b : zKc s
 ·have H : Hid (inB s i = false) := by unfold Hid; simp [inB, b]
  go_enter Tryz.func135, Tryz.ntmps135;go_wp2_with (go_at_call 156; refine (zKJ _ _).mono ?_; rintro e a ⟨rfl, rfl⟩)
  go_ret
  exact ⟨zAJ H.out.symm, rfl⟩
 ·cases c : zE5 i
  ·have H : Hid (inB s i = false) := by unfold Hid; simp [inB, c]
   go_enter Tryz.func135, Tryz.ntmps135
   go_wp2_with (first
    | (go_at_call 156; refine (zKJ _ _).mono ?_; rintro e a ⟨rfl, rfl⟩)
    | (go_at_call 157; refine (zGF _ _).mono ?_; rintro e a ⟨rfl, rfl⟩))
   go_ret
   exact ⟨zAJ H.out.symm, rfl⟩
  ·obtain ⟨d, f⟩ := zDP c;obtain ⟨g, j⟩ := zKK b;have H : Hid (inB s i = (bits BinOp.and IntKind.i64 s (2 ^ i.toNat) != 0)) := by unfold Hid; rw [and_mem s i g j d f]; simp [inB, b, c]
   go_enter Tryz.func135, Tryz.ntmps135
   go_wp2_with (first
    | (go_at_call 156; refine (zKJ _ _).mono ?_; rintro e a ⟨rfl, rfl⟩)
    | (go_at_call 157; refine (zGF _ _).mono ?_; rintro e a ⟨rfl, rfl⟩)
    | (go_at_call 158; refine (zFT _ _ d f).mono ?_; rintro e a ⟨rfl, rfl⟩))
   go_ret
   exact ⟨zAJ H.out.symm, rfl⟩
theorem zGG (s i : Int) (w : World) :
    Calls Tryz.prog 111 #[nI s, nI i] w fun e a => e = .returned (.bool (inB s i)) ∧ a = w := by
 cases b : zKc s
 ·have H : Hid (inB s i = false) := by unfold Hid; simp [inB, b]
  go_enter Tryz.func111, Tryz.ntmps111;go_wp2_with (go_at_call 136; refine (zCr _ _).mono ?_; rintro e a ⟨rfl, rfl⟩)
  go_ret
  exact ⟨zAJ H.out.symm, rfl⟩
 ·cases c : zE5 i
  ·have H : Hid (inB s i = false) := by unfold Hid; simp [inB, c]
   go_enter Tryz.func111, Tryz.ntmps111
   go_wp2_with (first
    | (go_at_call 136; refine (zCr _ _).mono ?_; rintro e a ⟨rfl, rfl⟩)
    | (go_at_call 137; refine (zDi _ _).mono ?_; rintro e a ⟨rfl, rfl⟩))
   go_ret
   exact ⟨zAJ H.out.symm, rfl⟩
  ·obtain ⟨h5, h6⟩ := zDP c;obtain ⟨d, h8⟩ := zKK b;have H : Hid (inB s i = ((s / 2 ^ i.toNat).tmod 2 == 1)) := by unfold Hid; rw [tmod_mem s i d]; simp [inB, b, c]
   go_enter Tryz.func111, Tryz.ntmps111
   go_wp2_with (first
    | (go_at_call 136; refine (zCr _ _).mono ?_; rintro e a ⟨rfl, rfl⟩)
    | (go_at_call 137; refine (zDi _ _).mono ?_; rintro e a ⟨rfl, rfl⟩))
   go_ret
   exact ⟨zAJ H.out.symm, rfl⟩
theorem zGH (s i : Int) (w : World) :
    Calls Tryz.prog 180 #[nI s, nI i] w fun e a => e = .returned (.bool (inB s i)) ∧ a = w := by
 go_enter Tryz.func180, Tryz.ntmps180;go_wp2_with (go_at_call 135; refine (zFi _ _ _).mono ?_; rintro e a ⟨rfl, rfl⟩)
 go_ret
 exact ⟨rfl, rfl⟩
end Go.Proofs.YtmaopldahnejdaaGreatDoor
