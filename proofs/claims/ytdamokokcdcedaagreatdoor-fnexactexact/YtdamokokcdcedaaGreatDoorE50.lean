import Derived.Test.YtdamokokcdcedaaGreatDoorE00Box
import Derived.Test.YtdamokokcdcedaaGreatDoorE49
namespace Go.Proofs.YtdamokokcdcedaaGreatDoor
open Go.RowKit
theorem mem_mems (s : Int) : ∀ (m : Nat) (k : Int), k ∈ mems s m ↔ inB s k = true ∧ 0 ≤ k ∧ k < m
 | 0, k => by simp [mems]
 | m + 1, k => by
  have d := mem_mems s m k;cases h : inB s m
  ·rw [mems_miss h, d];constructor
   ·rintro ⟨a, b, c⟩; exact ⟨a, b, by omega⟩
   ·rintro ⟨a, b, c⟩;refine ⟨a, b, ?_⟩;by_cases e : k = m
    ·rw [e, h] at a; cases a
    ·omega
  ·rw [mems_hit h, List.mem_append, d, List.mem_singleton];constructor
   ·rintro (⟨a, b, c⟩ | rfl)
    ·exact ⟨a, b, by omega⟩
    ·exact ⟨h, by omega, by omega⟩
   ·rintro ⟨a, b, c⟩;by_cases e : k = m
    ·exact .inr e
    ·exact .inl ⟨a, b, by omega⟩
theorem has_mems (s k : Int) : decide (k ∈ mems s 8) = inB s k := by
 rw [Bool.eq_iff_iff, decide_eq_true_iff, mem_mems];constructor
 ·exact fun h => h.1
 ·intro h;have : itemB k = true := by simp [inB] at h; exact h.1.2
  have := itemB_bd this;exact ⟨h, by omega, by omega⟩
open Go.ChangeShapes Go.WideShapes Go.ChangeAt Go.RowKit
set_option linter.unusedVariables false
theorem in_zero (i : Int) : inB 0 i = false := by
 cases a : itemB i
 ·simp [inB, a]
 ·obtain ⟨b, h1⟩ := itemB_bd a;have : ∀ i : Fin 8, inB 0 (i.val : Int) = false := by decide +kernel
  have := this ⟨i.toNat, by omega⟩;simpa [Int.toNat_of_nonneg b] using this
theorem ho_has {o s i : Int} (h : whoB o s = true) : decide (i ∈ hoI o s) = ((o == i && betw i 0 3) || inB s i) := by
 have hb := who_bd h;by_cases a : 0 ≤ o
 ·have b := who_alone h a;subst b;rw [in_zero, show hoI o 0 = [o] from if_pos a];rw [Bool.eq_iff_iff];simp [betw]
  omega
 ·rw [show hoI o s = mems s 8 from if_neg a, has_mems];have : (o == i && betw i 0 3) = false := by
   simp [betw]
   omega
  rw [this];rfl
set_option linter.unusedSimpArgs false
def stepS (st i o s : Int) : Option (Int × Int) := if 2 ≤ st then (if 0 ≤ o then none else some (i, s)) else if st = 1 then some (o, withI s i) else some (o, s)
def scanL : List Int → Int → Int → Int → Option (Int × Int)
 | [], _, o, s => some (o, s)
 | st :: r, i, o, s => match stepS st i o s with
  | none => none
  | some (o', s') => scanL r (i + 1) o' s'
theorem scan_app : ∀ (l r : List Int) (i o s : Int), scanL (l ++ r) i o s = match scanL l i o s with
    | none => none
    | some (o', s') => scanL r (i + l.length) o' s'
 | [], r, i, o, s => by simp [scanL]
 | st :: l, r, i, o, s => by
  simp only [List.cons_append, scanL];cases stepS st i o s with
  | none => rfl
  | some q =>
   simp only
   rw [scan_app l r];have e : i + 1 + (l.length : Int) = i + ((st :: l).length : Int) := by simp; omega
   rw [e]
theorem scan_push {l : List Int} {st o s : Int} (h : scanL l 0 (-1) 0 = some (o, s)) : scanL (l ++ [st]) 0 (-1) 0 = stepS st (l.length : Int) o s := by
 rw [scan_app, h];simp only [scanL, Int.zero_add];cases stepS st (l.length : Int) o s with
 | none => rfl
 | some q => rfl
theorem scan_none {l r : List Int} (h : scanL l 0 (-1) 0 = none) : scanL (l ++ r) 0 (-1) 0 = none := by rw [scan_app, h]
def lineOkL (l : List Int) (o sh : Int) : Bool := decide (scanL l 0 (-1) 0 = some (o, sh))
def lineQL (l : List Int) (o sh : Int) : Bool := (List.range 4).all fun (i : Nat) => (((o == (i : Int)) || inB sh (i : Int)) == decide (1 ≤ l.getD i 0)) && (decide (l.getD i 0 < 1) || ((o == (i : Int)) == decide (2 ≤ l.getD i 0)))
def oOf (q : Fin 20) : Int := if q.val < 16 then -1 else (q.val : Int) - 16
def sOf (q : Fin 20) : Int := if q.val < 16 then (q.val : Int) else 0
def eqL (l : List Int) (q : Fin 20) : Bool := lineOkL l (oOf q) (sOf q) == lineQL l (oOf q) (sOf q)
theorem line_fin0 : ∀ q : Fin 20, eqL [] q = true := by decide +kernel
theorem line_fin1 : ∀ a : Fin 4, ∀ q : Fin 20, eqL [(a.val : Int)] q = true := by decide +kernel
theorem line_fin2 : ∀ a b : Fin 4, ∀ q : Fin 20, eqL [(a.val : Int), (b.val : Int)] q = true := by decide +kernel
theorem line_fin3 : ∀ a b c : Fin 4, ∀ q : Fin 20, eqL [(a.val : Int), (b.val : Int), (c.val : Int)] q = true := by decide +kernel
theorem line_fin4 : ∀ a b c d : Fin 4, ∀ q : Fin 20, eqL [(a.val : Int), (b.val : Int), (c.val : Int), (d.val : Int)] q = true := by decide +kernel
theorem fin4_of {s : Int} (h : 0 ≤ s ∧ s ≤ 3) : ∃ a : Fin 4, (a.val : Int) = s := ⟨⟨s.toNat, by omega⟩, by simp; omega⟩
theorem line_eq {l : List Int} {o sh : Int} (hl : l.length ≤ 4) (h3 : ∀ s ∈ l, 0 ≤ s ∧ s ≤ 3) (hw : whoB o sh = true) : lineOkL l o sh = lineQL l o sh := by
 obtain ⟨q, rfl, rfl⟩ : ∃ q : Fin 20, oOf q = o ∧ sOf q = sh := by
  unfold whoB at hw;simp only [Bool.and_eq_true, betw, decide_eq_true_eq, Bool.or_eq_true] at hw;by_cases k : 0 ≤ o
  ·refine ⟨⟨16 + o.toNat, by omega⟩, ?_, ?_⟩
   ·unfold oOf; rw [if_neg (by simp)]; simp; omega
   ·have n := hw.2.2;simp [k] at n
    unfold sOf; rw [if_neg (by simp)]; omega
  ·refine ⟨⟨sh.toNat, by omega⟩, ?_, ?_⟩
   ·unfold oOf; rw [if_pos (by simp; omega)]; omega
   ·unfold sOf; rw [if_pos (by simp; omega)]; simp; omega
 have j : eqL l q = true → lineOkL l (oOf q) (sOf q) = lineQL l (oOf q) (sOf q) := fun h => by unfold eqL at h; simpa using h
 apply j
 match l, hl, h3 with
 | [], _, _ => exact line_fin0 q
 | [a], _, h3 =>
  obtain ⟨f, rfl⟩ := fin4_of (h3 a (by simp));exact line_fin1 f q
 | [a, b], _, h3 =>
  obtain ⟨f, rfl⟩ := fin4_of (h3 a (by simp));obtain ⟨g, rfl⟩ := fin4_of (h3 b (by simp));exact line_fin2 f g q
 | [a, b, c], _, h3 =>
  obtain ⟨f, rfl⟩ := fin4_of (h3 a (by simp));obtain ⟨g, rfl⟩ := fin4_of (h3 b (by simp));obtain ⟨i, rfl⟩ := fin4_of (h3 c (by simp));exact line_fin3 f g i q
 | [a, b, c, d], _, h3 =>
  obtain ⟨f, rfl⟩ := fin4_of (h3 a (by simp));obtain ⟨g, rfl⟩ := fin4_of (h3 b (by simp));obtain ⟨i, rfl⟩ := fin4_of (h3 c (by simp));obtain ⟨m, rfl⟩ := fin4_of (h3 d (by simp));exact line_fin4 f g i m q
 | _ :: _ :: _ :: _ :: _ :: _, h, _ => simp at h
theorem mem_book (x : FabricD) : ∀ (n : Nat) (t : Trip), t ∈ bookA x n ↔ ∃ (j : Nat) (e : EntryD), j < n ∧ x.2.1.2[j]? = some e ∧ t ∈ bookR j e
 | 0, t => ⟨fun h => (by cases h), fun ⟨j, e, h, _⟩ => (by omega)⟩
 | n + 1, t => by
  rw [bookA, List.mem_append, mem_book x n t];constructor
  ·rintro (⟨j, e, f, b, a⟩ | h)
   ·exact ⟨j, e, by omega, b, a⟩
   ·cases c : x.2.1.2[n]? with
    | none => rw [c] at h; cases h
    | some e => rw [c] at h; exact ⟨n, e, by omega, c, h⟩
  ·rintro ⟨j, e, f, b, a⟩;by_cases d : j = n
   ·subst d;right
    rw [b];exact a
   ·exact .inl ⟨j, e, by omega, b, a⟩
theorem mem_cache (x : FabricD) (T M : Nat) : ∀ (n : Nat) (t : Trip), t ∈ cacheA x T M n ↔ ∃ p : Nat, p < n ∧ clearB (wayK (cacheAt x (p / T)) M (p % T)) = false ∧ t = ((wayK (cacheAt x (p / T)) M (p % T)).1, ((p / T : Nat) : Int), decide (2 ≤ (wayK (cacheAt x (p / T)) M (p % T)).2.1))
 | 0, t => ⟨fun h => (by cases h), fun ⟨p, h, _⟩ => (by omega)⟩
 | n + 1, t => by
  rw [cacheA, List.mem_append, mem_cache x T M n t];constructor
  ·rintro (⟨p, f, b, a⟩ | h)
   ·exact ⟨p, by omega, b, a⟩
   ·cases c : clearB (wayK (cacheAt x (n / T)) M (n % T))
    ·rw [c] at h;exact ⟨n, by omega, c, by simpa using h⟩
    ·rw [c] at h;cases h
  ·rintro ⟨p, f, b, a⟩;by_cases d : p = n
   ·subst d;right
    rw [b];simpa using a
   ·exact .inl ⟨p, by omega, b, a⟩
theorem st_at {x : FabricD} {i : Nat} {u : CoreD} (h : x.2.2.1[i]? = some u) (k : Int) : (statesI x k).getD i 0 = (wayOf u.1 k).2.1 := by
 unfold statesI;rw [List.getD_eq_getElem?_getD, List.getElem?_map, h];rfl
theorem st_none {x : FabricD} {i : Nat} (h : x.2.2.1.length ≤ i) (k : Int) : (statesI x k).getD i 0 = 0 := by
 unfold statesI;rw [List.getD_eq_getElem?_getD, List.getElem?_map, List.getElem?_eq_none h];rfl
theorem way_full {c : CacheD} (hok : OkC isL treeB c) {k : Int} (h : (wayOf c k).2.1 ≠ 0) : (wayOf c k).1 = k ∧ 0 ≤ k ∧ 1 ≤ (wayOf c k).2.1 ∧ clearB (wayOf c k) = false := by
 cases a : atC c k with
 | none => unfold wayOf at h; rw [a] at h; exact absurd rfl h
 | some i =>
  obtain ⟨n, v, f, g⟩ := at_some a;have j : wayOf c k = v := by unfold wayOf; rw [a]; exact getD_of f
  obtain ⟨hp, d, -⟩ := ok_row hok k;obtain ⟨-, -, m, -, l⟩ := hok;rw [j] at h ⊢;rcases (l _ _ d).2.2.1 _ _ f with b | ⟨b, -⟩
  ·unfold clearB at b;simp only [decide_eq_true_eq] at b;exact absurd b.2.1 h
  ·unfold fullB at b;simp only [decide_eq_true_eq] at b;refine ⟨g, n, b.2.1.1, ?_⟩;unfold clearB;rw [decide_eq_false (by omega)]
theorem cache_iff {x : FabricD} (hf : fabI x = true) (k : Int) (hk : 0 ≤ k) (c : Int) (b : Bool) : (k, c, b) ∈ cacheA x (x.1.2.1.toNat * x.1.2.2.1.toNat) x.1.2.2.1.toNat (x.2.2.1.length * (x.1.2.1.toNat * x.1.2.2.1.toNat)) ↔ ∃ (i : Nat) (u : CoreD), x.2.2.1[i]? = some u ∧ c = i ∧ (wayOf u.1 k).2.1 ≠ 0 ∧ b = decide (2 ≤ (wayOf u.1 k).2.1) := by
 obtain ⟨R, H, j⟩ := fab_shape hf;have B : 0 < x.1.2.1.toNat * x.1.2.2.1.toNat := Nat.mul_pos (by omega) (by omega);rw [mem_cache];constructor
 ·rintro ⟨p, G, A, z⟩;have I : p / (x.1.2.1.toNat * x.1.2.2.1.toNat) < x.2.2.1.length := by rw [Nat.div_lt_iff_lt_mul B]; exact G
  have C : p % (x.1.2.1.toNat * x.1.2.2.1.toNat) < x.1.2.1.toNat * x.1.2.2.1.toNat := Nat.mod_lt _ B;obtain ⟨u, d⟩ : ∃ u, x.2.2.1[p / (x.1.2.1.toNat * x.1.2.2.1.toNat)]? = some u := ⟨_, List.getElem?_eq_getElem I⟩;rw [cacheAt_of d] at A z;obtain ⟨l, g⟩ := j u (List.mem_of_getElem? d);simp only [Prod.mk.injEq] at z;obtain ⟨J, N, M⟩ := z;have a := fab_core hf (List.mem_of_getElem? d);have n := wayK_of a g (by omega) (by rw [l]; exact C) hk J.symm;refine ⟨_, u, d, N, ?_, by rw [n]; exact M⟩;intro r;rw [n] at r;obtain ⟨K, F, O⟩ := wayK_get (by omega) g (by rw [l]; exact C);obtain ⟨-, -, m, -, y⟩ := a;rcases (y _ _ F).2.2.1 _ _ O with o | ⟨o, -⟩
  ·rw [o] at A; cases A
  ·unfold fullB at o;simp only [decide_eq_true_eq] at o;omega
 ·rintro ⟨i, u, d, rfl, r, rfl⟩;obtain ⟨l, g⟩ := j u (List.mem_of_getElem? d);have a := fab_core hf (List.mem_of_getElem? d);obtain ⟨D, -, q2, L⟩ := way_full a r;have v : ∃ q, q < u.1.1.length * x.1.2.2.1.toNat ∧ (wayK u.1 x.1.2.2.1.toNat q).1 = k := by
   apply Classical.byContradiction
   intro E;exact r (by rw [wayK_none a g hk (fun q f e => E ⟨q, f, e⟩)]; rfl)
  obtain ⟨q, f, n⟩ := v;have e := wayK_of a g (by omega) f hk n;have s := (List.getElem?_eq_some_iff.1 d).1;rw [l] at f;refine ⟨i * (x.1.2.1.toNat * x.1.2.2.1.toNat) + q, ?_, ?_, ?_⟩
  ·have : (i + 1) * (x.1.2.1.toNat * x.1.2.2.1.toNat) ≤ x.2.2.1.length * (x.1.2.1.toNat * x.1.2.2.1.toNat) := Nat.mul_le_mul_right _ s;rw [Nat.add_one_mul] at this;omega
  ·rw [(pos_div f).1, (pos_div f).2, cacheAt_of d, ← e];exact L
  ·rw [(pos_div f).1, (pos_div f).2, cacheAt_of d, ← e, D]
theorem book_iff {x : FabricD} (hf : fabI x = true) {k : Nat} {e : EntryD} (he : x.2.1.2[k]? = some e) (c : Int) (b : Bool) : ((k : Int), c, b) ∈ bookA x x.2.1.2.length ↔ c ∈ hoI e.1 e.2.1 ∧ b = ownB e.1 c := by
 have a : holdE e = hoI e.1 e.2.1 := by unfold holdE; rw [if_pos (fab_ent hf (List.mem_of_getElem? he))]
 rw [mem_book];constructor
 ·rintro ⟨j, e', i, l, f⟩;unfold bookR at f;obtain ⟨c', d, g⟩ := List.mem_map.1 f;simp only [Prod.mk.injEq] at g;obtain ⟨e1, rfl, rfl⟩ := g;have m : j = k := by omega
  subst m;rw [he] at l;cases l;rw [a] at d;exact ⟨d, rfl⟩
 ·rintro ⟨i, rfl⟩;refine ⟨k, e, (List.getElem?_eq_some_iff.1 he).1, he, ?_⟩;unfold bookR;rw [a];exact List.mem_map.2 ⟨c, i, rfl⟩
theorem who_ent {x : FabricD} (hf : fabI x = true) {k : Nat} {e : EntryD} (he : x.2.1.2[k]? = some e) : whoB e.1 e.2.1 = true := by
 have h := fab_ent hf (List.mem_of_getElem? he);unfold entB at h;simp only [Bool.and_eq_true] at h;exact h.1
theorem four_fin : ∀ s : Fin 16, ∀ i : Fin 8, inB (s.val : Int) (i.val : Int) = true → i.val ≤ 3 := by decide +kernel
theorem in_four {s c : Int} (h : 0 ≤ s ∧ s ≤ 15) (q : inB s c = true) : 0 ≤ c ∧ c ≤ 3 := by
 have a : itemB c = true := by unfold inB at q; simp only [Bool.and_eq_true] at q; exact q.1.2
 have b := itemB_bd a;have := four_fin ⟨s.toNat, by omega⟩ ⟨c.toNat, by omega⟩;simp only [Int.toNat_of_nonneg h.1, Int.toNat_of_nonneg b.1] at this;have := this q;omega
theorem ho_four {o s c : Int} (h : whoB o s = true) (hc : c ∈ hoI o s) : 0 ≤ c ∧ c ≤ 3 := by
 have a := ho_has (i := c) h;rw [decide_eq_true hc] at a;have a := a.symm;simp only [Bool.or_eq_true, Bool.and_eq_true, betw, decide_eq_true_eq] at a;rcases a with ⟨-, q⟩ | q
 ·exact q
 ·unfold whoB at h;simp only [Bool.and_eq_true, betw, decide_eq_true_eq] at h;exact in_four h.2.1 q
theorem line_iff {x : FabricD} (hf : fabI x = true) {k : Nat} {e : EntryD} (he : x.2.1.2[k]? = some e) : lineQL (statesI x k) e.1 e.2.1 = true ↔ ∀ c b, ((k : Int), c, b) ∈ bookA x x.2.1.2.length ↔ ((k : Int), c, b) ∈ cacheA x (x.1.2.1.toNat * x.1.2.2.1.toNat) x.1.2.2.1.toNat (x.2.2.1.length * (x.1.2.1.toNat * x.1.2.2.1.toNat)) := by
 have l := who_ent hf he;obtain ⟨⟨E, H⟩, G, -⟩ := fab_facts hf;have d : ∀ i : Nat, i < 4 → decide ((i : Int) ∈ hoI e.1 e.2.1) = ((e.1 == (i : Int)) || inB e.2.1 (i : Int)) := fun i o => by
  rw [ho_has l];have : betw (i : Int) 0 3 = true := by simp [betw]; omega
  rw [this, Bool.and_true]
 have f : ∀ i : Nat, i < 4 → ownB e.1 (i : Int) = (e.1 == (i : Int)) := fun i o => by
  unfold ownB;have : betw (i : Int) 0 3 = true := by simp [betw]; omega
  rw [this, Bool.true_and, Bool.eq_iff_iff];simp
  exact eq_comm
 have z : ∀ i (u : CoreD), x.2.2.1[i]? = some u → ((wayOf u.1 (k : Int)).2.1 ≠ 0 ↔ 1 ≤ (wayOf u.1 (k : Int)).2.1) := fun i u a => ⟨fun h => (way_full (fab_core hf (List.mem_of_getElem? a)) h).2.2.1, fun h => by omega⟩;unfold lineQL;rw [List.all_eq_true];constructor
 ·intro h c b;rw [book_iff hf he, cache_iff hf k (by omega)];constructor
  ·rintro ⟨s, rfl⟩;obtain ⟨p0, p3⟩ := ho_four l s;obtain ⟨i, rfl⟩ : ∃ i : Nat, c = (i : Int) := ⟨c.toNat, by omega⟩;have m := h i (by simp; omega);rw [← d i (by omega), decide_eq_true s] at m;simp only [Bool.and_eq_true, Bool.or_eq_true, beq_iff_eq, decide_eq_true_eq] at m;obtain ⟨n, g⟩ := m;have n := of_decide_eq_true n.symm;have o : i < x.2.2.1.length := by
    apply Classical.byContradiction
    intro r;rw [st_none (by omega)] at n;omega
   obtain ⟨u, a⟩ : ∃ u, x.2.2.1[i]? = some u := ⟨_, List.getElem?_eq_getElem o⟩;rw [st_at a] at n g;refine ⟨i, u, a, rfl, by omega, ?_⟩;rw [f i (by omega)];rcases g with g | g
   ·omega
   ·exact g
  ·rintro ⟨i, u, a, rfl, p, rfl⟩;have o := (List.getElem?_eq_some_iff.1 a).1;have m := h i (by simp; omega);have s := (z i u a).1 p;rw [← d i (by omega), st_at a, decide_eq_true s] at m;simp only [Bool.and_eq_true, Bool.or_eq_true, beq_iff_eq, decide_eq_true_eq] at m;obtain ⟨n, g⟩ := m;refine ⟨n, ?_⟩;rw [f i (by omega)];rcases g with g | g
   ·omega
   ·exact g.symm
 ·intro h i o;have q : i < 4 := by simpa using o
  rw [← d i q];by_cases A : i < x.2.2.1.length
  ·obtain ⟨u, a⟩ : ∃ u, x.2.2.1[i]? = some u := ⟨_, List.getElem?_eq_getElem A⟩;rw [st_at a];have C := h (i : Int);by_cases p : 1 ≤ (wayOf u.1 (k : Int)).2.1
   ·have y := (C (decide (2 ≤ (wayOf u.1 (k : Int)).2.1))).2 ((cache_iff hf k (by omega) _ _).2 ⟨i, u, a, rfl, (z i u a).2 p, rfl⟩);rw [book_iff hf he, f i q] at y;rw [decide_eq_true y.1, decide_eq_true p, y.2];simp
   ·have r : ¬ (i : Int) ∈ hoI e.1 e.2.1 := fun hm => by
      obtain ⟨v, D, j, F, B, -⟩ := (cache_iff hf k (by omega) _ _).1 ((C (ownB e.1 i)).1 ((book_iff hf he _ _).2 ⟨hm, rfl⟩));have : v = i := by omega
      subst this;rw [a] at j;cases j;exact p ((z v u a).1 B)
    rw [decide_eq_false r, decide_eq_false p, decide_eq_true (show (wayOf u.1 (k : Int)).2.1 < 1 by omega)];rfl
  ·rw [st_none (by omega)];have r : ¬ (i : Int) ∈ hoI e.1 e.2.1 := fun hm => by
    obtain ⟨v, D, j, F, B, -⟩ := (cache_iff hf k (by omega) _ _).1 ((h (i : Int) (ownB e.1 i)).1 ((book_iff hf he _ _).2 ⟨hm, rfl⟩));have := (List.getElem?_eq_some_iff.1 j).1;omega
   rw [decide_eq_false r];rfl
theorem scan_go {x : FabricD} {k : Int} {m : Nat} {u : CoreD} {o s : Int} (hu : x.2.2.1[m]? = some u) (h : scanL ((statesI x k).take m) 0 (-1) 0 = some (o, s)) : scanL ((statesI x k).take (m + 1)) 0 (-1) 0 = stepS (wayOf u.1 k).2.1 (m : Int) o s := by
 have hm := (List.getElem?_eq_some_iff.1 hu).1;have e := scan_push (st := stateOf u k) h;rw [states_step hu] at e;have q : ((statesI x k).take m).length = m := by rw [List.length_take, states_len]; omega
 rw [e, q];rfl
theorem scan_stop {x : FabricD} {k : Int} {m : Nat} (h : scanL ((statesI x k).take m) 0 (-1) 0 = none) : scanL (statesI x k) 0 (-1) 0 = none := by
 have := scan_none (r := (statesI x k).drop m) h;rwa [List.take_append_drop] at this
def exaLine (x : FabricD) (k : Nat) : Bool := match x.2.1.2[k]? with
 | some e => lineOkL (statesI x (k : Int)) e.1 e.2.1
 | none => true
noncomputable def exaS (x : FabricD) : Bool := finI x && (List.range x.1.2.2.2.toNat).all (exaLine x)
theorem exaLine_of {x : FabricD} {k : Nat} {e : EntryD} (h : x.2.1.2[k]? = some e) : exaLine x k = lineOkL (statesI x (k : Int)) e.1 e.2.1 := by unfold exaLine; rw [h]
theorem exaLine_none {x : FabricD} {k : Nat} {e : EntryD} (h : x.2.1.2[k]? = some e) (q : scanL (statesI x (k : Int)) 0 (-1) 0 = none) : exaLine x k = false := by
 rw [exaLine_of h]; unfold lineOkL; rw [q]; rfl
theorem exaLine_some {x : FabricD} {k : Nat} {e : EntryD} {o s : Int} (h : x.2.1.2[k]? = some e) (q : scanL (statesI x (k : Int)) 0 (-1) 0 = some (o, s)) : exaLine x k = (decide (e.1 = o) && decide (e.2.1 = s)) := by
 rw [exaLine_of h];unfold lineOkL;rw [q, Bool.eq_iff_iff];simp
 constructor
 ·rintro ⟨rfl, rfl⟩; exact ⟨rfl, rfl⟩
 ·rintro ⟨rfl, rfl⟩; exact ⟨rfl, rfl⟩
theorem exa_not {x : FabricD} {k : Nat} (hq : finI x = true) (hk : k < x.1.2.2.2.toNat) (h : exaLine x k = false) : exaS x = false := by
 unfold exaS;rw [hq, Bool.true_and];cases a : (List.range x.1.2.2.2.toNat).all (exaLine x)
 ·rfl
 ·have := List.all_eq_true.1 a k (List.mem_range.2 hk);rw [h] at this;cases this
theorem exa_all {x : FabricD} (hq : finI x = true) (h : ∀ k, k < x.1.2.2.2.toNat → exaLine x k = true) : exaS x = true := by
 unfold exaS;rw [hq, Bool.true_and, List.all_eq_true];exact fun k hk => h k (List.mem_range.1 hk)
theorem fin_fab {x : FabricD} (h : finI x = true) : fabI x = true := by
 unfold finI at h;simp only [Bool.and_eq_true] at h;exact h.1
theorem cache_line {x : FabricD} (hf : fabI x = true) {t : Trip} (ht : t ∈ cacheA x (x.1.2.1.toNat * x.1.2.2.1.toNat) x.1.2.2.1.toNat (x.2.2.1.length * (x.1.2.1.toNat * x.1.2.2.1.toNat))) : 0 ≤ t.1 ∧ t.1 < x.1.2.2.2 := by
 obtain ⟨q, o, a⟩ := fab_shape hf;obtain ⟨⟨m, d⟩, -⟩ := fab_lines hf;have c : 0 < x.1.2.1.toNat * x.1.2.2.1.toNat := Nat.mul_pos (by omega) (by omega);obtain ⟨p, n, f, rfl⟩ := (mem_cache x _ _ _ _).1 ht;have g : p / (x.1.2.1.toNat * x.1.2.2.1.toNat) < x.2.2.1.length := by rw [Nat.div_lt_iff_lt_mul c]; exact n
 have i : p % (x.1.2.1.toNat * x.1.2.2.1.toNat) < x.1.2.1.toNat * x.1.2.2.1.toNat := Nat.mod_lt _ c;obtain ⟨u, b⟩ : ∃ u, x.2.2.1[p / (x.1.2.1.toNat * x.1.2.2.1.toNat)]? = some u := ⟨_, List.getElem?_eq_getElem g⟩;rw [cacheAt_of b] at f ⊢;obtain ⟨l, k⟩ := a u (List.mem_of_getElem? b);obtain ⟨-, -, j, r6⟩ := fab_way hf (List.mem_of_getElem? b) k (by omega) (by rw [l]; exact i) rfl f;exact ⟨j, by omega⟩
theorem exa_eq (x : FabricD) : exaS x = exaI x := by
 unfold exaS exaI;cases B : finI x
 ·rfl
 ·have d := fin_fab B;obtain ⟨⟨r, A⟩, y, -⟩ := fab_facts d;obtain ⟨⟨D, p⟩, v⟩ := fab_lines d;have a : ∀ k, k < x.2.1.2.length → (exaLine x k = true ↔ ∀ c b, ((k : Int), c, b) ∈ bookA x x.2.1.2.length ↔ ((k : Int), c, b) ∈ cacheA x (x.1.2.1.toNat * x.1.2.2.1.toNat) x.1.2.2.1.toNat (x.2.2.1.length * (x.1.2.1.toNat * x.1.2.2.1.toNat))) := fun k l => by
   obtain ⟨e, m⟩ : ∃ e, x.2.1.2[k]? = some e := ⟨_, List.getElem?_eq_getElem l⟩;rw [exaLine_of m, line_eq (by rw [states_len]; omega) ?_ (who_ent d m)]
   ·exact line_iff d m
   ·intro s q;obtain ⟨u, z, rfl⟩ := List.mem_map.1 q;have := (way_rng4 (fab_core d z) (k : Int)).1;simp only [betw, Bool.and_eq_true, decide_eq_true_eq] at this;exact this
  rw [Bool.true_and, Bool.true_and, Bool.eq_iff_iff, List.all_eq_true];simp only [decide_eq_true_eq];constructor
  ·rintro h ⟨f, c, b⟩;have i : 0 ≤ f → f < (x.2.1.2.length : Int) → ((f, c, b) ∈ bookA x x.2.1.2.length ↔ (f, c, b) ∈ cacheA x (x.1.2.1.toNat * x.1.2.2.1.toNat) x.1.2.2.1.toNat (x.2.2.1.length * (x.1.2.1.toNat * x.1.2.2.1.toNat))) := fun h0 h1 => by
    have := (a f.toNat (by omega)).1 (h _ (by simp; omega)) c b;rwa [Int.toNat_of_nonneg h0] at this
   constructor
   ·intro g;obtain ⟨j, e, q1, q2, o⟩ := (mem_book x _ _).1 g;unfold bookR at o;obtain ⟨c', -, C⟩ := List.mem_map.1 o;simp only [Prod.mk.injEq] at C;exact (i (by omega) (by omega)).1 g
   ·intro g;have n := cache_line d g;simp only at n
    exact (i n.1 (by omega)).2 g
  ·intro h k l;exact (a k (by simp at l; omega)).2 fun c b => h (k, c, b)
theorem fin_no {x : FabricD} (h : fabI x = false) : finI x = false := by unfold finI; rw [h]; rfl
theorem core_len {w : World} {cs : List Value} {u : CoreD} (h : coreR.rd w cs u) : u.2.1.length ≤ 9223372036854775807 := by
 obtain ⟨z0, z1, z2, z5, z6, z7, z8, e, r0, ⟨a, c, -, d, b, -⟩, -⟩ := core_rd h;exact Nat.le_trans d b
theorem idle_step {xs : List CoreD} {k : Nat} {u : CoreD} (hno : ∀ j v, j < k → xs[j]? = some v → idleC v = true) (hx : xs[k]? = some u) (hb : idleC u = true) : ∀ j v, j < k + 1 → xs[j]? = some v → idleC v = true := fun j v hj hv => by
 by_cases a : j < k
 ·exact hno j v a hv
 ·have : j = k := by omega
  subst this;rw [hx] at hv;cases hv;exact hb
set_option maxHeartbeats 4000000 in
set_option maxRecDepth 20000 in
theorem l16Fin_any (x : FabricD) (a1 : Option Addr) (c1 : Nat) (b1 : Option Addr) (d1 : Nat) (a2 : Option Addr) (c2 : Nat) (a3 : Option Addr) (c3 : Nat) (b3 : Option Addr) (d3 : Nat) (a4 : Option Addr) (c4 : Nat) (a5 : Option Addr) (c5 : Nat) (w : World) (R : FabRd w x a1 c1 b1 d1 a2 c2 a3 c3 b3 d3 a4 c4 a5 c5) :
    Calls Tryz.prog 53 #[.agg #[nI x.1.1, nI x.1.2.1, nI x.1.2.2.1, nI x.1.2.2.2, sL a1 x.2.1.1.length c1, sL b1 x.2.1.2.length d1, sL a2 x.2.2.1.length c2, sL a3 x.2.2.2.1.1.length c3, nI x.2.2.2.1.2.1, .bool x.2.2.2.1.2.2.1, sL b3 x.2.2.2.1.2.2.2.length d3, sL a4 x.2.2.2.2.1.length c4, sL a5 x.2.2.2.2.2.length c5]] w fun e w' => e = .returned (.bool (x.2.2.1.all idleC && (decide (x.2.2.2.2.1.length = 0) && decide (x.2.2.2.1.2.1 = (x.2.2.2.1.1.length : Int))))) ∧ Bl w w' := by
 have RR : Hid (∀ W, Bl w W → SlRd coreR W a2 x.2.2.1) := fun W q => (fab_next R q).cores;have l1 : x.2.2.1.length ≤ 9223372036854775807 := R.coresl;have l2 : x.2.2.2.2.1.length ≤ 9223372036854775807 := R.netl;have l3 : x.2.2.2.1.1.length ≤ 9223372036854775807 := R.descsl;have B := Below.refl w.heap.size w;clear R;go_enter Tryz.func53, Tryz.ntmps53;go_upto_region 1 with fail
 generalize a : w.alloc _ = u1w;have F := boxH a;have H := boxB a;have zF := boxL a;clear a;replace B := below_step B H;clear H zF;go_wp2;go_loopw [3] (fun i wr => ∃ k : Nat, k ≤ x.2.2.1.length ∧ i = nI k ∧ (∀ j v, j < k → x.2.2.1[j]? = some v → idleC v = true) ∧ Bl w wr ∧ wr.heap[w.heap.size]? = some (.cells #[nI x.1.1, nI x.1.2.1, nI x.1.2.2.1, nI x.1.2.2.2, sL a1 x.2.1.1.length c1, sL b1 x.2.1.2.length d1, sL a2 x.2.2.1.length c2, sL a3 x.2.2.2.1.1.length c3, nI x.2.2.2.1.2.1, .bool x.2.2.2.1.2.2.1, sL b3 x.2.2.2.1.2.2.2.length d3, sL a4 x.2.2.2.2.1.length c4, sL a5 x.2.2.2.2.2.length c5] 49 (0, 0))) (fun i _ => x.2.2.1.length - (intOf i).toNat)
 case atStart => exact ⟨0, Nat.zero_le _, rfl, fun j v hj => by omega, B, F⟩
 case round =>
  clear B F;obtain ⟨k, hk, rfl, d, g, o⟩ := hrel;obtain ⟨U, p1, T, p3, J, C, D, Z, K, Y, l, m, n⟩ := cells_fabric o;by_cases z : k < x.2.2.1.length
  ·have O : (k : Int) < (x.2.2.1.length : Int) := by omega
   obtain ⟨u, A⟩ : ∃ u, x.2.2.1[k]? = some u := ⟨_, List.getElem?_eq_getElem z⟩;obtain ⟨bb, dA, cs, ra, b, c⟩ := slrd_at (RR.out _ g) A;have eA := core_len b;obtain ⟨ga, gc, gb, gd, ha, hc, ia, ic, ja, jc, rfl⟩ := core_shape b;obtain ⟨L, V, x2, X, M, I, E, S, N⟩ := cellsAt9 c rfl;subst ra;have HF : Hid _ := o;have G : Hid _ := A;have y : Hid _ := d;clear c b A d o;by_cases q : u.2.2.1 < (u.2.1.length : Int)
   ·have HN : Hid (x.2.2.1.all idleC = false) := all_not G.out (by simp [idleC, q]);go_wp2_with fail
    go_quiet (fail)
    clear L V x2 X M I E S N U p1 T p3 J C D Z K Y l m n;go_wp2;go_ret
    exact ⟨by rw [HN.out]; rfl, be_drewN g _⟩
   ·have HE : Hid _ := idle_step y.out G.out (by simp only [idleC, decide_eq_false q]; rfl);go_wp2_with fail
    go_quiet (fail)
    clear L V x2 X M I E S N U p1 T p3 J C D Z K Y l m n;go_wp2;go_roundw
    case rel => exact ⟨k + 1, by omega, by go_num, HE.out, be_drewN g _, HF.out⟩
    case measure => simp [intOf]; omega
  ·have s : Hid (x.2.2.1.all idleC = true) := all_upto fun j v hv => d j v (by have := (List.getElem?_eq_some_iff.1 hv).1; omega) hv;have gA : ¬ ((k : Int) < (x.2.2.1.length : Int)) := by omega
   clear d o;by_cases f : x.2.2.2.2.1.length = 0
   ·have r : (x.2.2.2.2.1.length : Int) = 0 := by omega
    by_cases p : x.2.2.2.1.2.1 = (x.2.2.2.1.1.length : Int)
    ·go_wp2;go_ret
     exact ⟨by first | (rw [s.out]; simp [f, p]; done) | (simp [f, p]; done), g⟩
    ·go_wp2;go_ret
     exact ⟨by first | (rw [s.out]; simp [f, p]; done) | (simp [f, p]; done), g⟩
   ·have r : ¬ (x.2.2.2.2.1.length : Int) = 0 := by omega
    go_wp2;go_ret
    exact ⟨by first | (rw [s.out]; simp [f]; done) | (simp [f]; done), g⟩
end Go.Proofs.YtdamokokcdcedaaGreatDoor
