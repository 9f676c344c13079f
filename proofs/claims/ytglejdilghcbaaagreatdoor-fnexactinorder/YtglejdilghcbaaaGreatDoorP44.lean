import Derived.Test.YtglejdilghcbaaaGreatDoorP00Box
import Derived.Test.YtglejdilghcbaaaGreatDoorP43
import Derived.OwnWalk
namespace Go.Proofs.YtglejdilghcbaaaGreatDoor
set_option maxHeartbeats 4000000
set_option maxRecDepth 20000
open Go.ChangeShapes Go.WideShapes Go.ChangeAt Go.RowKit
set_option linter.unusedVariables false
set_option linter.unusedSimpArgs false
theorem coreHas_any (cs : List Value) (u : CoreD) (es : List EventD) (ea : Option Addr) (ec : Nat) (w : World) (h : coreR.rd w cs u) (he : SlRd eventR w ea es) (hm : es.length ≤ maxLen) (h0 : 0 ≤ u.2.2.1) (h1 : u.2.2.1 ≤ (u.2.1.length : Int)) :
    Calls Tryz.prog 59 #[aggV cs, sL ea es.length ec] w fun e w' => e = .returned (.bool (coreDone u es)) ∧ Bl w w' := by
 obtain ⟨v0, v1, v2, v5, v6, v7, v8, rfl, -, ⟨z, c, A, j, g, m⟩, -, -, -, ⟨H, E, y, p, s, v⟩⟩ := core_rd h;simp only [List.cons.injEq, and_true] at A y;obtain rfl := A;obtain rfl := y;obtain ⟨n, i⟩ : ∃ n : Nat, u.2.2.1 = n := ⟨u.2.2.1.toNat, by omega⟩;have d : n ≤ u.2.1.length := by omega
 have l : Hid (∀ W, Bl w W → Calls Tryz.prog 107 #[sL ea es.length ec, sL z n c, .func (.func 108) #[] #[]] W fun e w' => e = .returned (.bool (pairB isOfB es (u.2.1.take n))) ∧ Bl W w') := fun W hb => by
  have e : (u.2.1.take n).length = n := by rw [List.length_take]; omega
  have := eqEvOp ea z es (u.2.1.take n) ec c W (slrd_next he hb) (slrd_takeG (slrd_next m hb)) hm (by rw [e]; exact Nat.le_trans d (Nat.le_trans j g));rw [e] at this;exact this
 have q : Hid _ := fun (W : World) (hb : Bl w W) => eqEvInt ea H es u.2.2.2.2.2 ec E W (slrd_next he hb) (slrd_next v hb) hm (Nat.le_trans p s);have f : Hid ((pairB isOfB es (u.2.1.take n) && pairB tellsB es u.2.2.2.2.2) = coreDone u es) := by unfold Hid coreDone; rw [i, Int.toNat_natCast]
 have C : n ≤ c := Nat.le_trans d j;have r : (n : Int) ≤ (c : Int) := by omega
 have F : c ≤ 9223372036854775807 := g;rw [aE, i];generalize pairB isOfB es (u.2.1.take n) = p1 at l f;generalize pairB tellsB es u.2.2.2.2.2 = p2 at q f;clear h he hm h0 h1 m v j g p s i;have B := Below.refl w.heap.size w;go_enter Tryz.func59, Tryz.ntmps59;go_upto_region 1 with fail
 generalize a : w.alloc _ = u1w;have X := boxH a;have o := boxB a;clear a;replace B := below_step B o;clear o;have Xc := cells_core X;go_wp2_with fail
 clear Xc;refine (l.out _ B).mono ?_;rintro e D ⟨rfl, b⟩;replace B := below_step B b;replace X := row_keep b X;clear b;cases p1
 ·have Xc := cells_core X;have k : Hid _ := B;clear B X;go_wp2;go_ret
  exact ⟨ret_bool f.out, k.out⟩
 ·have Xc := cells_core X;go_wp2_with fail
  clear Xc;refine (q.out _ B).mono ?_;rintro e G ⟨rfl, b⟩;replace B := below_step B b;clear b;have k : Hid _ := B;clear B X;go_wp2;go_ret
  exact ⟨ret_bool f.out, k.out⟩
theorem dmaHas_any (x : DmaD) (es : List EventD) (pa ta ea : Option Addr) (pc tc ec : Nat) (w : World) (h : dmaR.rd w [sL pa x.1.length pc, nI x.2.1, .bool x.2.2.1, sL ta x.2.2.2.length tc] x) (he : SlRd eventR w ea es) (hm : es.length ≤ maxLen) (h0 : 0 ≤ x.2.1) (h1 : x.2.1 ≤ (x.1.length : Int)) (hd1 : ∀ u ∈ es, u.2.2.2.2.1.length ≤ 1048576) (hd2 : ∀ d ∈ x.1, d.2.2.2.length ≤ 1048576) (hd3 : ∀ d ∈ x.2.2.2, d.length ≤ 1048576) :
    Calls Tryz.prog 112 #[.agg #[sL pa x.1.length pc, nI x.2.1, .bool x.2.2.1, sL ta x.2.2.2.length tc], sL ea es.length ec] w fun e w' => e = .returned (.bool (dmaDone x es)) ∧ Bl w w' := by
 obtain ⟨v0, v3, C, ⟨F, D, o, j, g, q⟩, -, -, ⟨J, G, m, v, z, A⟩⟩ := dma_rd h;simp only [List.cons.injEq, and_true, true_and] at C o m;obtain ⟨rfl, rfl⟩ := C;simp only [Value.slice.injEq, true_and] at o m;obtain ⟨rfl, rfl⟩ := o;obtain ⟨rfl, rfl⟩ := m;obtain ⟨n, i⟩ : ∃ n : Nat, x.2.1 = n := ⟨x.2.1.toNat, by omega⟩;have l : n ≤ x.1.length := by omega
 have p : Hid (∀ W, Bl w W → Calls Tryz.prog 164 #[sL ea es.length ec, sL pa n pc, .func (.func 115) #[] #[]] W fun e w' => e = .returned (.bool (pairB carB es (x.1.take n))) ∧ Bl W w') := fun W hb => by
  have e : (x.1.take n).length = n := by rw [List.length_take]; omega
  have := eqEvDesc ea pa es (x.1.take n) ec pc W (slrd_next he hb) (slrd_takeG (slrd_next q hb)) hm (by rw [e]; exact Nat.le_trans l (Nat.le_trans j g)) hd1 (fun d hd => hd2 d (List.mem_of_mem_take hd));rw [e] at this;exact this
 have y : Hid _ := fun (W : World) (hb : Bl w W) => eqEvInts ea ta es x.2.2.2 ec tc W (slrd_next he hb) (slrd_next A hb) hm (Nat.le_trans v z) hd1 hd3;have r : Hid (∀ W, Calls Tryz.prog 113 #[.agg #[sL pa x.1.length pc, nI x.2.1, .bool x.2.2.1, sL ta x.2.2.2.length tc]] W fun e w' => e = .returned (.agg #[sL pa x.1.length pc, nI x.2.1]) ∧ Bl W w') := fun W => queue_any x pa ta pc tc W;have f : Hid (∀ W, Calls Tryz.prog 149 #[.agg #[sL pa x.1.length pc, nI x.2.1]] W fun e w' => e = .returned (sL pa x.2.1.toNat pc) ∧ Bl W w') := fun W => done_any x pa pc W h0 h1 j g;have c : Hid ((pairB carB es (x.1.take n) && pairB foundB es x.2.2.2) = dmaDone x es) := by unfold Hid dmaDone; rw [i, Int.toNat_natCast]
 rw [i] at r f ⊢;rw [Int.toNat_natCast] at f;generalize pairB carB es (x.1.take n) = p1 at p c;generalize pairB foundB es x.2.2.2 = p2 at y c;clear h he hm h0 h1 hd1 hd2 hd3 q A j g v z i;have B := Below.refl w.heap.size w;go_enter Tryz.func112, Tryz.ntmps112;go_upto_region 1 with fail
 generalize b : w.alloc _ = u1w;have X := boxH b;have s := boxB b;clear b;replace B := below_step B s;clear s;have Xc := cells_4 X;go_wp2_with fail
 clear Xc;refine (r.out _).mono ?_;rintro e I ⟨rfl, a⟩;replace B := below_step B a;replace X := row_keep a X;clear a;go_wp2_with fail
 refine (f.out _).mono ?_;rintro e K ⟨rfl, a⟩;replace B := below_step B a;replace X := row_keep a X;clear a;have Xc := cells_4 X;go_wp2_with fail
 clear Xc;refine (p.out _ B).mono ?_;rintro e E ⟨rfl, a⟩;replace B := below_step B a;replace X := row_keep a X;clear a;cases p1
 ·have Xc := cells_4 X;have k : Hid _ := B;clear B X;go_wp2;go_ret
  exact ⟨ret_bool c.out, k.out⟩
 ·have Xc := cells_4 X;go_wp2_with fail
  clear Xc;refine (y.out _ B).mono ?_;rintro e H ⟨rfl, a⟩;replace B := below_step B a;clear a;have k : Hid _ := B;clear B X;go_wp2;go_ret
  exact ⟨ret_bool c.out, k.out⟩
theorem taken_any (xs : List DescD) (d : DescD) (n : Nat) (pa : Option Addr) (pc : Nat) (w : World) (q : SlRd descR w pa xs) (hx : xs[n]? = some d) (hl : xs.length ≤ maxLen) :
    Calls Tryz.prog 114 #[.agg #[sL pa xs.length pc, nI n]] w fun e w' => ∃ j l, e = .returned (.tuple #[.agg #[.bool d.1, nI d.2.1, nI d.2.2.1, sL j d.2.2.2.length l], .agg #[sL pa xs.length pc, nI ((n : Int) + 1)]]) ∧ SlRd intR w j d.2.2.2 ∧ Bl w w' := by
 have C : xs.length ≤ 9223372036854775807 := hl;have A : n < xs.length := (List.getElem?_eq_some_iff.1 hx).1;have z : (n : Int) < (xs.length : Int) := by omega
 obtain ⟨y, k, cs, rfl, i, g⟩ := slrd_at q hx;obtain ⟨j, l, rfl, s⟩ := desc_shape i;refine Calls.mono (R := fun e w' => e = .returned (.tuple #[.agg #[.bool d.1, nI d.2.1, nI d.2.2.1, sL j d.2.2.2.length l], .agg #[sL (some ⟨y, k, none⟩) xs.length pc, nI ((n : Int) + 1)]]) ∧ Bl w w') ?_ (fun e w' ⟨a, b⟩ => ⟨j, l, a, s, b⟩);have B : Hid (∀ a b c, Bl w (((w.alloc a).alloc b).alloc c).drew) := fun a b c => (below_step (below_step (box_below w a) (box_below _ b)) (box_below _ c)).drew;obtain ⟨r, m, p, o⟩ := cellsAt4 g rfl;have f : ∀ a b c, Bl w (((w.alloc a).alloc b).alloc c) := fun a b c => below_step (below_step (box_below w a) (box_below _ b)) (box_below _ c);replace r := fun a b c => cell_keep (f a b c) r (cell_lt r);replace m := fun a b c => cell_keep (f a b c) m (cell_lt m);replace p := fun a b c => cell_keep (f a b c) p (cell_lt p);replace o := fun a b c => cell_keep (f a b c) o (cell_lt o);clear g i s q hx hl f;go_enter Tryz.func114, Tryz.ntmps114;go_upto_region 1 with fail
 go_region
 go_wp2;refine bodyPost_ret (v := .tuple #[.agg #[.bool d.1, nI d.2.1, nI d.2.2.1, sL j d.2.2.2.length l], .agg #[sL (some ⟨y, k, none⟩) xs.length pc, nI ((n : Int) + 1)]]) (by simp [results, Tryz.results114, go_sem]) rfl ⟨rfl, ?_⟩;exact B.out _ _ _
theorem dmaHasW_any (x : DmaD) (es : List EventD) (pa ta ea : Option Addr) (pc tc ec : Nat) (w : World) (h : dmaR.rd w [sL pa x.1.length pc, nI x.2.1, .bool x.2.2.1, sL ta x.2.2.2.length tc] x) (he : SlRd eventR w ea es) (hm : es.length ≤ maxLen) (h0 : 0 ≤ x.2.1) (h1 : x.2.1 ≤ (x.1.length : Int)) (hd1 : ∀ u ∈ es, u.2.2.2.2.1.length ≤ 1048576) (hd2 : ∀ d ∈ x.1, d.2.2.2.length ≤ 1048576) (hd3 : ∀ d ∈ x.2.2.2, d.length ≤ 1048576) (hw : x.2.2.1 = true → x.2.1 < (x.1.length : Int)) (hl30 : x.1.length ≤ 1048576) (hec1 : es.length ≤ ec) (hec2 : ec ≤ maxLen) :
    Calls Tryz.prog 61 #[.agg #[sL pa x.1.length pc, nI x.2.1, .bool x.2.2.1, sL ta x.2.2.2.length tc], sL ea es.length ec] w fun e w' => e = .returned (.bool (dmaW x es)) ∧ Bl w w' := by
 obtain ⟨v0, v3, ed, ⟨pB, oB, e1, n1, n2, q1⟩, -, -, ⟨mB, qB, e2, m1, m2, q2⟩⟩ := dma_rd h;simp only [List.cons.injEq, and_true, true_and] at ed e1 e2;obtain ⟨rfl, rfl⟩ := ed;simp only [Value.slice.injEq, true_and] at e1 e2;obtain ⟨rfl, rfl⟩ := e1;obtain ⟨rfl, rfl⟩ := e2;obtain ⟨n, O⟩ : ∃ n : Nat, x.2.1 = n := ⟨x.2.1.toNat, by omega⟩;have nB : n ≤ x.1.length := by omega
 have HH : Hid _ := fun (W : World) (i : Bl w W) => dmaHas_any x es pa ta ea pc tc ec W (rd_next h i) (slrd_next he i) hm h0 h1 hd1 hd2 hd3;have HQ : Hid (∀ W, Calls Tryz.prog 113 #[.agg #[sL pa x.1.length pc, nI x.2.1, .bool x.2.2.1, sL ta x.2.2.2.length tc]] W fun e w' => e = .returned (.agg #[sL pa x.1.length pc, nI x.2.1]) ∧ Bl W w') := fun W => queue_any x pa ta pc tc W;have rB : (n : Int) ≤ 9223372036854775806 := by have := hl30; omega
 by_cases p : x.2.2.1 = true ∧ (es.length : Int) = x.2.1 + 1
 ·skip
  obtain ⟨i, p⟩ := p;have VA := hw i;rw [O] at p VA;have NA : n < x.1.length := by omega
  have v : n < es.length := by omega
  obtain ⟨d, hx⟩ : ∃ d, x.1[n]? = some d := ⟨_, List.getElem?_eq_getElem NA⟩;obtain ⟨g, F⟩ : ∃ g, es[n]? = some g := ⟨_, List.getElem?_eq_getElem v⟩;have HT : Hid (∀ W, Bl w W → Calls Tryz.prog 114 #[.agg #[sL pa x.1.length pc, nI n]] W fun e w' => ∃ L dc, e = .returned (.tuple #[.agg #[.bool d.1, nI d.2.1, nI d.2.2.1, sL L d.2.2.2.length dc], .agg #[sL pa x.1.length pc, nI ((n : Int) + 1)]]) ∧ SlRd intR w' L d.2.2.2 ∧ Bl W w') := fun W i => (taken_any x.1 d n pa pc W (slrd_next q1 i) hx (Nat.le_trans n1 n2)).mono fun e w' ⟨L, dc, a, b, c⟩ => ⟨L, dc, a, slrd_next b c, c⟩;have H : Hid (∀ W, Bl w W → Calls Tryz.prog 112 #[.agg #[sL pa x.1.length pc, nI n, .bool x.2.2.1, sL ta x.2.2.2.length tc], sL ea n ec] W fun e w' => e = .returned (.bool (dmaDone x (es.take n))) ∧ Bl W w') := fun W i => by
   have e : (es.take n).length = n := by rw [List.length_take]; omega
   have := dmaHas_any x (es.take n) pa ta ea pc tc ec W (rd_next h i) (slrd_takeG (slrd_next he i)) (by rw [e]; omega) h0 h1 (fun u hu => hd1 u (List.mem_of_mem_take hu)) hd2 hd3;rw [e, O] at this;exact this
  obtain ⟨m, j, cs, rfl, N, D⟩ := slrd_at he F;obtain ⟨L, dc, rfl, -, hd⟩ := ev_parts N;have HC : Hid (∀ (W : World) (E : Option Addr) (G : Nat), Bl w W → SlRd intR W E d.2.2.2 → Calls Tryz.prog 115 #[.agg #[nI g.1, nI g.2.1.1, nI g.2.1.2.1, nI g.2.1.2.2.1, nI g.2.1.2.2.2, nI g.2.2.1, nI g.2.2.2.1, sL L g.2.2.2.2.1.length dc, nI g.2.2.2.2.2], .agg #[.bool d.1, nI d.2.1, nI d.2.2.1, sL E d.2.2.2.length G]] W fun e w' => e = .returned (.bool (carB g d)) ∧ Bl W w') := fun W E G i hs => carries_any g d L E dc G W (slrd_next hd i) hs (hd1 g (List.mem_of_getElem? F)) (hd2 d (List.mem_of_getElem? hx));have J : Hid ((carB g d && dmaDone x (es.take n)) = dmaW x es) := by unfold Hid dmaW lastB; rw [O, if_pos ⟨i, p⟩, Int.toNat_natCast, F, hx]
  obtain ⟨x0, x1, x2, x3, x4, x5, x6, x7, x8⟩ := cellsAt9 D rfl;have OA := cell_lt x0;have zl : ((es.length : Int) != (n : Int) + 1) = false := by simp [p]
  have bB : (n : Int) < (es.length : Int) := by omega
  have YA : n ≤ ec := by omega
  have EA : (n : Int) ≤ (ec : Int) := by omega
  have gB : ec ≤ 9223372036854775807 := hec2;have rA : es.length ≤ 9223372036854775807 := hm;rw [O] at HQ ⊢;generalize carB g d = p1 at HC J;generalize dmaDone x (es.take n) = p2 at H J;rw [i] at HQ H ⊢;clear D N hd hx F h he hm h0 h1 hw hd1 hd2 hd3 q1 q2 n1 n2 m1 m2 O p HH i;have B := Below.refl w.heap.size w;go_enter Tryz.func61, Tryz.ntmps61;go_upto_region 1 with fail
  generalize f : w.alloc _ = u1w;have X := boxH f;have o := boxB f;clear f;replace B := below_step B o;clear o;have Xc := cells_4 X;go_wp2_with fail
  clear Xc;refine (HQ.out _).mono ?_;rintro e qA ⟨rfl, k⟩;replace B := below_step B k;replace X := row_keep k X;clear k;go_wp2_with fail
  refine (HT.out _ B).mono ?_;rintro e l ⟨E, G, rfl, C, k⟩;replace B := below_step B k;replace X := row_keep k X;clear k;go_upto_region 4 with fail
  have Y := heap_on (.cells #[sL pa x.1.length pc, nI ((n : Int) + 1)] 171) (heap_at l (.cells #[.bool d.1, nI d.2.1, nI d.2.2.1, sL E d.2.2.2.length G] 73));have o := below_step (box_below l (.cells #[.bool d.1, nI d.2.1, nI d.2.2.1, sL E d.2.2.2.length G] 73)) (box_below _ (.cells #[sL pa x.1.length pc, nI ((n : Int) + 1)] 171));replace B := below_step B o;replace X := row_keep o X;replace C := slrd_next C o;clear o;generalize (l.alloc (.cells #[.bool d.1, nI d.2.1, nI d.2.2.1, sL E d.2.2.2.length G] 73)).alloc (.cells #[sL pa x.1.length pc, nI ((n : Int) + 1)] 171) = u4w at B X Y C ⊢;have I : Hid (∀ n' : Cls (fun wx => Bl u4w wx), _) := fun n' => HC.out n'.w E G (below_step B n'.h) (slrd_next C n'.h);have T : Hid (∀ n' : Cls (fun wx => Bl u4w wx), _) := fun n' => H.out n'.w (below_step B n'.h);obtain ⟨X0, X1, X2, X3⟩ := cells_4 X;obtain ⟨Y0, Y1, Y2, Y3⟩ := cells_4 Y;replace x0 := cell_keep B x0 (cell_lt x0);replace x1 := cell_keep B x1 (cell_lt x1);replace x2 := cell_keep B x2 (cell_lt x2);replace x3 := cell_keep B x3 (cell_lt x3);replace x4 := cell_keep B x4 (cell_lt x4);replace x5 := cell_keep B x5 (cell_lt x5);replace x6 := cell_keep B x6 (cell_lt x6);replace x7 := cell_keep B x7 (cell_lt x7);replace x8 := cell_keep B x8 (cell_lt x8);have Xk0 : ∀ n' : Cls (fun wx => Bl u4w wx), n'.w.cell? ⟨w.heap.size, 0, none⟩ = some (sL pa x.1.length pc) := fun n' => cell_keep n'.h X0 (cell_lt X0);have Xk1 : ∀ n' : Cls (fun wx => Bl u4w wx), n'.w.cell? ⟨w.heap.size, 1, none⟩ = some (nI n) := fun n' => cell_keep n'.h X1 (cell_lt X1);have Xk2 : ∀ n' : Cls (fun wx => Bl u4w wx), n'.w.cell? ⟨w.heap.size, 2, none⟩ = some (.bool true) := fun n' => cell_keep n'.h X2 (cell_lt X2);have Xk3 : ∀ n' : Cls (fun wx => Bl u4w wx), n'.w.cell? ⟨w.heap.size, 3, none⟩ = some (sL ta x.2.2.2.length tc) := fun n' => cell_keep n'.h X3 (cell_lt X3);have Yk0 : ∀ n' : Cls (fun wx => Bl u4w wx), n'.w.cell? ⟨l.heap.size, 0, none⟩ = some (.bool d.1) := fun n' => cell_keep n'.h Y0 (cell_lt Y0);have Yk1 : ∀ n' : Cls (fun wx => Bl u4w wx), n'.w.cell? ⟨l.heap.size, 1, none⟩ = some (nI d.2.1) := fun n' => cell_keep n'.h Y1 (cell_lt Y1);have Yk2 : ∀ n' : Cls (fun wx => Bl u4w wx), n'.w.cell? ⟨l.heap.size, 2, none⟩ = some (nI d.2.2.1) := fun n' => cell_keep n'.h Y2 (cell_lt Y2);have Yk3 : ∀ n' : Cls (fun wx => Bl u4w wx), n'.w.cell? ⟨l.heap.size, 3, none⟩ = some (sL E d.2.2.2.length G) := fun n' => cell_keep n'.h Y3 (cell_lt Y3);have Ek0 : ∀ n' : Cls (fun wx => Bl u4w wx), n'.w.cell? ⟨m, j + n * 9, none⟩ = some (nI g.1) := fun n' => cell_keep n'.h x0 (cell_lt x0);have Ek1 : ∀ n' : Cls (fun wx => Bl u4w wx), n'.w.cell? ⟨m, j + n * 9 + 1, none⟩ = some (nI g.2.1.1) := fun n' => cell_keep n'.h x1 (cell_lt x1);have Ek2 : ∀ n' : Cls (fun wx => Bl u4w wx), n'.w.cell? ⟨m, j + n * 9 + 2, none⟩ = some (nI g.2.1.2.1) := fun n' => cell_keep n'.h x2 (cell_lt x2);have Ek3 : ∀ n' : Cls (fun wx => Bl u4w wx), n'.w.cell? ⟨m, j + n * 9 + 3, none⟩ = some (nI g.2.1.2.2.1) := fun n' => cell_keep n'.h x3 (cell_lt x3);have Ek4 : ∀ n' : Cls (fun wx => Bl u4w wx), n'.w.cell? ⟨m, j + n * 9 + 4, none⟩ = some (nI g.2.1.2.2.2) := fun n' => cell_keep n'.h x4 (cell_lt x4);have Ek5 : ∀ n' : Cls (fun wx => Bl u4w wx), n'.w.cell? ⟨m, j + n * 9 + 5, none⟩ = some (nI g.2.2.1) := fun n' => cell_keep n'.h x5 (cell_lt x5);have Ek6 : ∀ n' : Cls (fun wx => Bl u4w wx), n'.w.cell? ⟨m, j + n * 9 + 6, none⟩ = some (nI g.2.2.2.1) := fun n' => cell_keep n'.h x6 (cell_lt x6);have Ek7 : ∀ n' : Cls (fun wx => Bl u4w wx), n'.w.cell? ⟨m, j + n * 9 + 7, none⟩ = some (sL L g.2.2.2.2.1.length dc) := fun n' => cell_keep n'.h x7 (cell_lt x7);have Ek8 : ∀ n' : Cls (fun wx => Bl u4w wx), n'.w.cell? ⟨m, j + n * 9 + 8, none⟩ = some (nI g.2.2.2.2.2) := fun n' => cell_keep n'.h x8 (cell_lt x8);have M : Hid _ := B;clear X0 X1 X2 X3 Y0 Y1 Y2 Y3 x0 x1 x2 x3 x4 x5 x6 x7 x8 OA X Y C B HT HQ HC H;cases p1
  ·refine region_class (fun wx => Bl u4w wx) (by kernel_rfl) (by kernel_rfl) ((Below.refl _ u4w).drew) ?_;intro v;iterate 7 (quiet_step (first | (go_at_call 115; exact calls_class (I.out _) (fun w' hc m => below_step hc m)) | skip))
   refine wpQuiet_step (fun K hK => ?_);go_simp
   refine hid_act K _ ?_;intro A0 vA;refine hK A0 ?_;clear hK K;have sA : A0.tmps[34]? = some (.bool false) := by rw [vA]; rfl
   refine wpQuiet_skip (b := true) (d := 34) sA rfl rfl rfl (by decide) ?_;intro lB eA r;clear sA;refine wpQuiet_skip (b := true) (d := 34) r rfl rfl rfl (by decide) ?_;intro kB R z;clear r;refine wpQuiet_skip (b := true) (d := 34) z rfl rfl rfl (by decide) ?_;intro cB S s;clear z;refine wpQuiet_skip (b := true) (d := 34) s rfl rfl rfl (by decide) ?_;intro iB dA y;clear s;refine wpQuiet_skip (b := true) (d := 34) y rfl rfl rfl (by decide) ?_;intro jB U A;clear y;refine wpQuiet_skip (b := true) (d := 34) A rfl rfl rfl (by decide) ?_;intro eB Z V;clear A V;subst Z U dA S R eA;subst vA;iterate 2 (quiet_step (first | skip))
   refine wpQuiet_nil ?_;intro RA k;have fA : Hid _ := below_step M.out k;clear v k M I T Xk0 Xk1 Xk2 Xk3 Yk0 Yk1 Yk2 Yk3 Ek0 Ek1 Ek2 Ek3 Ek4 Ek5 Ek6 Ek7 Ek8;go_wp2;go_ret
   exact ⟨ret_bool J.out, fA.out⟩
  ·refine region_class (fun wx => Bl u4w wx) (by kernel_rfl) (by kernel_rfl) ((Below.refl _ u4w).drew) ?_;intro v;repeat (quiet_step (first | (go_at_call 115; exact calls_class (I.out _) (fun w' hc m => below_step hc m)) | (go_at_call 112; exact calls_class (T.out _) (fun w' hc m => below_step hc m))))
   refine wpQuiet_nil ?_;intro RA k;have fA : Hid _ := below_step M.out k;clear v k M I T Xk0 Xk1 Xk2 Xk3 Yk0 Yk1 Yk2 Yk3 Ek0 Ek1 Ek2 Ek3 Ek4 Ek5 Ek6 Ek7 Ek8;go_wp2;go_ret
   exact ⟨ret_bool J.out, fA.out⟩
 ·skip
  have J : Hid (dmaDone x es = dmaW x es) := by unfold Hid dmaW; rw [if_neg p]
  rw [O] at HH p ⊢;generalize dmaDone x es = p1 at HH J;have rA : es.length ≤ 9223372036854775807 := hm;have B := Below.refl w.heap.size w;cases i : x.2.2.1
  ·rw [i] at HH;clear h he hm h0 h1 hw hd1 hd2 hd3 q1 q2 n1 n2 m1 m2 O p HQ i;go_enter Tryz.func61, Tryz.ntmps61;go_upto_region 1 with fail
   generalize f : w.alloc _ = u1w;have X := boxH f;have o := boxB f;clear f;replace B := below_step B o;clear o;have Xc := cells_4 X;go_wp2_with fail
   clear Xc;refine (HH.out _ B).mono ?_;rintro e qA ⟨rfl, k⟩;replace B := below_step B k;clear k;have M : Hid _ := B;clear B X;go_wp2;go_ret
   exact ⟨ret_bool J.out, M.out⟩
  ·have zl : ((es.length : Int) != (n : Int) + 1) = true := by
     simp only [bne_iff_ne, ne_eq];exact fun q => p ⟨i, q⟩
   rw [i] at HH;clear h he hm h0 h1 hw hd1 hd2 hd3 q1 q2 n1 n2 m1 m2 O p HQ i;go_enter Tryz.func61, Tryz.ntmps61;go_upto_region 1 with fail
   generalize f : w.alloc _ = u1w;have X := boxH f;have o := boxB f;clear f;replace B := below_step B o;clear o;have Xc := cells_4 X;go_wp2_with fail
   clear Xc;refine (HH.out _ B).mono ?_;rintro e qA ⟨rfl, k⟩;replace B := below_step B k;clear k;have M : Hid _ := B;clear B X;go_wp2;go_ret
   exact ⟨ret_bool J.out, M.out⟩
theorem ev_bk (u : EventD) : u.2.2.2.2.1.length ≤ eventM.bk u := by
 show u.2.2.2.2.1.length ≤ intM.bk u.1 + (opM.bk u.2.1 + (intM.bk u.2.2.1 + (intM.bk u.2.2.2.1 + ((u.2.2.2.2.1.length + sumbk intM u.2.2.2.2.1) + intM.bk u.2.2.2.2.2))))
 omega
theorem ev_small {xs : List EventD} (h : eventsM.bk xs ≤ 1048576) : xs.length ≤ 1048576 ∧ ∀ u ∈ xs, u.2.2.2.2.1.length ≤ 1048576 := by
 have e : eventsM.bk xs = xs.length + sumbk eventM xs := rfl;refine ⟨by omega, fun u hu => ?_⟩;obtain ⟨k, a⟩ := List.getElem?_of_mem hu;have := sumbk_ge eventM xs a;have := ev_bk u;omega
theorem bk_mem {α : Type} {M : Mk α} : ∀ {xs : List α} {x : α}, x ∈ xs → M.bk x ≤ sumbk M xs
 | y :: xs, x, h => by
  have e : sumbk M (y :: xs) = M.bk y + sumbk M xs := by simp [sumbk]
  rw [e];rcases List.mem_cons.1 h with rfl | h
  ·omega
  ·have := bk_mem (M := M) h;omega
theorem bk_in {α : Type} {M : Mk α} {xs : List α} {x : α} (h : x ∈ xs) : M.bk x ≤ (slM M).bk xs := by
 have := bk_mem (M := M) h;show M.bk x ≤ xs.length + sumbk M xs
 omega
theorem ints_bk (d : List Int) : d.length ≤ intsM.bk d := Nat.le_add_right _ _
theorem implFabricOk_any (x : FabricD) (a1 : Option Addr) (c1 : Nat) (b1 : Option Addr) (d1 : Nat) (a2 : Option Addr) (c2 : Nat) (a3 : Option Addr) (c3 : Nat) (b3 : Option Addr) (d3 : Nat) (a4 : Option Addr) (c4 : Nat) (a5 : Option Addr) (c5 : Nat) (w : World) (R : FabRd w x a1 c1 b1 d1 a2 c2 a3 c3 b3 d3 a4 c4 a5 c5) (hh : Hold w) :
    Calls Tryz.prog 23 #[.agg #[nI x.1.1, nI x.1.2.1, nI x.1.2.2.1, nI x.1.2.2.2, sL a1 x.2.1.1.length c1, sL b1 x.2.1.2.length d1, sL a2 x.2.2.1.length c2, sL a3 x.2.2.2.1.1.length c3, nI x.2.2.2.1.2.1, .bool x.2.2.2.1.2.2.1, sL b3 x.2.2.2.1.2.2.2.length d3, sL a4 x.2.2.2.2.1.length c4, sL a5 x.2.2.2.2.2.length c5]] w fun e w' => e = .returned (.bool (fabI x)) ∧ Bl w w' := by
 have E : Hid _ := fun (W : World) (hb : Bl w W) => implCode_any x.1.1 x.1.2.1 x.1.2.2.1 x.1.2.2.2 W;have l : Hid (codeI x.1.1 x.1.2.1 x.1.2.2.1 x.1.2.2.2 = 0 → ∀ W, Bl w W → Calls Tryz.prog 54 #[.agg #[nI x.1.1, nI x.1.2.1, nI x.1.2.2.1, nI x.1.2.2.2, sL a1 x.2.1.1.length c1, sL b1 x.2.1.2.length d1, sL a2 x.2.2.1.length c2, sL a3 x.2.2.2.1.1.length c3, nI x.2.2.2.1.2.1, .bool x.2.2.2.1.2.2.1, sL b3 x.2.2.2.1.2.2.2.length d3, sL a4 x.2.2.2.2.1.length c4, sL a5 x.2.2.2.2.2.length c5]] W fun e w' => e = .returned (.bool (houseFit x)) ∧ Bl W w') := fun hc W hb => fabHouse_any x a1 c1 b1 d1 a2 c2 a3 c3 b3 d3 a4 c4 a5 c5 W hc (fab_next R hb);have p : Hid (codeI x.1.1 x.1.2.1 x.1.2.2.1 x.1.2.2.2 = 0 → ∀ W, Bl w W → Calls Tryz.prog 55 #[.agg #[nI x.1.1, nI x.1.2.1, nI x.1.2.2.1, nI x.1.2.2.2, sL a1 x.2.1.1.length c1, sL b1 x.2.1.2.length d1, sL a2 x.2.2.1.length c2, sL a3 x.2.2.2.1.1.length c3, nI x.2.2.2.1.2.1, .bool x.2.2.2.1.2.2.1, sL b3 x.2.2.2.1.2.2.2.length d3, sL a4 x.2.2.2.2.1.length c4, sL a5 x.2.2.2.2.2.length c5]] W fun e w' => e = .returned (.bool (coresFit x)) ∧ Bl W w') := fun hc W hb => fabCores_any x a1 c1 b1 d1 a2 c2 a3 c3 b3 d3 a4 c4 a5 c5 W hc (fab_next R hb) (hh.goes hb);have o : Hid (codeI x.1.1 x.1.2.1 x.1.2.2.1 x.1.2.2.2 = 0 → ∀ W, Bl w W → Calls Tryz.prog 56 #[.agg #[nI x.1.1, nI x.1.2.1, nI x.1.2.2.1, nI x.1.2.2.2, sL a1 x.2.1.1.length c1, sL b1 x.2.1.2.length d1, sL a2 x.2.2.1.length c2, sL a3 x.2.2.2.1.1.length c3, nI x.2.2.2.1.2.1, .bool x.2.2.2.1.2.2.1, sL b3 x.2.2.2.1.2.2.2.length d3, sL a4 x.2.2.2.2.1.length c4, sL a5 x.2.2.2.2.2.length c5]] W fun e w' => e = .returned (.bool (dmaFit x)) ∧ Bl W w') := fun hc W hb => fabDma_any x a1 c1 b1 d1 a2 c2 a3 c3 b3 d3 a4 c4 a5 c5 W hc (fab_next R hb) (hh.goes hb);have m : Hid (codeI x.1.1 x.1.2.1 x.1.2.2.1 x.1.2.2.2 = 0 → ∀ W, Bl w W → Calls Tryz.prog 57 #[.agg #[nI x.1.1, nI x.1.2.1, nI x.1.2.2.1, nI x.1.2.2.2, sL a1 x.2.1.1.length c1, sL b1 x.2.1.2.length d1, sL a2 x.2.2.1.length c2, sL a3 x.2.2.2.1.1.length c3, nI x.2.2.2.1.2.1, .bool x.2.2.2.1.2.2.1, sL b3 x.2.2.2.1.2.2.2.length d3, sL a4 x.2.2.2.2.1.length c4, sL a5 x.2.2.2.2.2.length c5]] W fun e w' => e = .returned (.bool (netFit x)) ∧ Bl W w') := fun hc W hb => fabNet_any x a1 c1 b1 d1 a2 c2 a3 c3 b3 d3 a4 c4 a5 c5 W hc (fab_next R hb);have r : Hid _ := fun (W : World) (hb : Bl w W) => fabEvents_any x a1 c1 b1 d1 a2 c2 a3 c3 b3 d3 a4 c4 a5 c5 W (fab_next R hb);unfold fabI;clear R hh;generalize codeI x.1.1 x.1.2.1 x.1.2.2.1 x.1.2.2.2 = kc at E l p o m ⊢;generalize houseFit x = q1 at l ⊢;generalize coresFit x = q2 at p ⊢;generalize dmaFit x = q3 at o ⊢;generalize netFit x = q4 at m ⊢;generalize (decide (x.2.2.2.2.2.length ≤ 200) && x.2.2.2.2.2.all evB) = q5 at r ⊢;have B := Below.refl w.heap.size w;go_enter Tryz.func23, Tryz.ntmps23;go_upto_region 1 with fail
 generalize b : w.alloc _ = u1w;have F := boxH b;have z := boxB b;have n := boxL b;clear b;replace B := below_step B z;clear z;have H := lE n;have G := lE n.symm;clear n;obtain ⟨Fc0, Fc1, Fc2, Fc3, Fc4, Fc5, Fc6, Fc7, Fc8, Fc9, Fc10, Fc11, Fc12⟩ := cells_fabric F;have Flt := (ltH F);go_wp2_with fail
 clear Fc0 Fc1 Fc2 Fc3 Fc4 Fc5 Fc6 Fc7 Fc8 Fc9 Fc10 Fc11 Fc12 Flt;refine (E.out _ B).mono ?_;rintro e i ⟨rfl, a⟩;have C : u1w.heap.size ≤ i.heap.size := a.size;replace B := below_step B a;replace F := row_keep a F;clear a;by_cases d : kc = 0
 ·have J : (kc == 0) = true := by simp [d]
  subst d;have d : (0 : Int) = 0 := rfl;clear d;obtain ⟨Fc0, Fc1, Fc2, Fc3, Fc4, Fc5, Fc6, Fc7, Fc8, Fc9, Fc10, Fc11, Fc12⟩ := cells_fabric F;have Flt := (ltH F);go_wp2_with fail
  clear Fc0 Fc1 Fc2 Fc3 Fc4 Fc5 Fc6 Fc7 Fc8 Fc9 Fc10 Fc11 Fc12 Flt;refine (l.out (by first | rfl | trivial) _ B).mono ?_;rintro e k ⟨rfl, a⟩;have D : i.heap.size ≤ k.heap.size := a.size;replace B := below_step B a;replace F := row_keep a F;clear a;cases q1
  ·skip
   obtain ⟨Fc0, Fc1, Fc2, Fc3, Fc4, Fc5, Fc6, Fc7, Fc8, Fc9, Fc10, Fc11, Fc12⟩ := cells_fabric F;have Flt := (ltH F);have c : Hid _ := B;clear B F;go_wp2;go_ret
   exact ⟨by simp, c.out⟩
  ·skip
   obtain ⟨Fc0, Fc1, Fc2, Fc3, Fc4, Fc5, Fc6, Fc7, Fc8, Fc9, Fc10, Fc11, Fc12⟩ := cells_fabric F;have Flt := (ltH F);go_wp2_with fail
   clear Fc0 Fc1 Fc2 Fc3 Fc4 Fc5 Fc6 Fc7 Fc8 Fc9 Fc10 Fc11 Fc12 Flt;refine (p.out (by first | rfl | trivial) _ B).mono ?_;rintro e f ⟨rfl, a⟩;have v : k.heap.size ≤ f.heap.size := a.size;replace B := below_step B a;replace F := row_keep a F;clear a;cases q2
   ·skip
    obtain ⟨Fc0, Fc1, Fc2, Fc3, Fc4, Fc5, Fc6, Fc7, Fc8, Fc9, Fc10, Fc11, Fc12⟩ := cells_fabric F;have Flt := (ltH F);have c : Hid _ := B;clear B F;go_wp2;go_ret
    exact ⟨by simp, c.out⟩
   ·skip
    obtain ⟨Fc0, Fc1, Fc2, Fc3, Fc4, Fc5, Fc6, Fc7, Fc8, Fc9, Fc10, Fc11, Fc12⟩ := cells_fabric F;have Flt := (ltH F);go_wp2_with fail
    clear Fc0 Fc1 Fc2 Fc3 Fc4 Fc5 Fc6 Fc7 Fc8 Fc9 Fc10 Fc11 Fc12 Flt;refine (o.out (by first | rfl | trivial) _ B).mono ?_;rintro e g ⟨rfl, a⟩;have A : f.heap.size ≤ g.heap.size := a.size;replace B := below_step B a;replace F := row_keep a F;clear a;cases q3
    ·skip
     obtain ⟨Fc0, Fc1, Fc2, Fc3, Fc4, Fc5, Fc6, Fc7, Fc8, Fc9, Fc10, Fc11, Fc12⟩ := cells_fabric F;have Flt := (ltH F);have c : Hid _ := B;clear B F;go_wp2;go_ret
     exact ⟨by simp, c.out⟩
    ·skip
     obtain ⟨Fc0, Fc1, Fc2, Fc3, Fc4, Fc5, Fc6, Fc7, Fc8, Fc9, Fc10, Fc11, Fc12⟩ := cells_fabric F;have Flt := (ltH F);go_wp2_with fail
     clear Fc0 Fc1 Fc2 Fc3 Fc4 Fc5 Fc6 Fc7 Fc8 Fc9 Fc10 Fc11 Fc12 Flt;refine (m.out (by first | rfl | trivial) _ B).mono ?_;rintro e j ⟨rfl, a⟩;have y : g.heap.size ≤ j.heap.size := a.size;replace B := below_step B a;replace F := row_keep a F;clear a;cases q4
     ·skip
      obtain ⟨Fc0, Fc1, Fc2, Fc3, Fc4, Fc5, Fc6, Fc7, Fc8, Fc9, Fc10, Fc11, Fc12⟩ := cells_fabric F;have Flt := (ltH F);have c : Hid _ := B;clear B F;go_wp2;go_ret
      exact ⟨by simp, c.out⟩
     ·skip
      obtain ⟨Fc0, Fc1, Fc2, Fc3, Fc4, Fc5, Fc6, Fc7, Fc8, Fc9, Fc10, Fc11, Fc12⟩ := cells_fabric F;have Flt := (ltH F);go_wp2_with fail
      clear Fc0 Fc1 Fc2 Fc3 Fc4 Fc5 Fc6 Fc7 Fc8 Fc9 Fc10 Fc11 Fc12 Flt;refine (r.out _ B).mono ?_;rintro e q ⟨rfl, a⟩;have s : j.heap.size ≤ q.heap.size := a.size;replace B := below_step B a;replace F := row_keep a F;clear a;obtain ⟨Fc0, Fc1, Fc2, Fc3, Fc4, Fc5, Fc6, Fc7, Fc8, Fc9, Fc10, Fc11, Fc12⟩ := cells_fabric F;have Flt := (ltH F);have c : Hid _ := B;clear B F;go_wp2;go_ret
      exact ⟨by simp, c.out⟩
 ·have J : (kc == 0) = false := by simp [d]
  have I : Hid (¬ kc = 0) := d;clear d;obtain ⟨Fc0, Fc1, Fc2, Fc3, Fc4, Fc5, Fc6, Fc7, Fc8, Fc9, Fc10, Fc11, Fc12⟩ := cells_fabric F;have Flt := (ltH F);have c : Hid _ := B;clear B F;go_wp2;go_ret
  exact ⟨by simp [I.out], c.out⟩
def loopsOf : Code → List Code
 | .loop c => [c]
 | .seq a b => loopsOf a ++ loopsOf b
 | .block _ c => loopsOf c
 | .scope c => loopsOf c
 | .cond _ a b => loopsOf a ++ loopsOf b
 | _ => []
noncomputable def fabCode (n : Nat) : Code := ((Tryz.f14.body.map loopsOf).getD []).getD n .skip
theorem all_upto {α : Type} {p : α → Bool} {xs : List α} (h : ∀ (j : Nat) v, xs[j]? = some v → p v = true) : xs.all p = true := List.all_eq_true.2 fun v hv => by
 obtain ⟨j, a⟩ := List.getElem?_of_mem hv;exact h j v a
structure UptoF (w : World) (x : FabricD) (a1 b1 a2 a3 b3 a4 a5 : Option Addr) (c1 d1 c2 c3 d3 c4 c5 : Nat) (n : Nat) (p : Nat → Prop) (i : Value) (wr : World) : Prop where
 ex : ∃ k : Nat, k ≤ n ∧ i = .int .i64 k ∧ (∀ j, j < k → p j) ∧ Below w.heap.size w wr ∧ wr.heap[w.heap.size]? = some (.cells #[.int .i64 x.1.1, .int .i64 x.1.2.1, .int .i64 x.1.2.2.1, .int .i64 x.1.2.2.2, .slice a1 x.2.1.1.length c1, .slice b1 x.2.1.2.length d1, .slice a2 x.2.2.1.length c2, .slice a3 x.2.2.2.1.1.length c3, .int .i64 x.2.2.2.1.2.1, .bool x.2.2.2.1.2.2.1, .slice b3 x.2.2.2.1.2.2.2.length d3, .slice a4 x.2.2.2.2.1.length c4, .slice a5 x.2.2.2.2.2.length c5] 49 (0, 0))
theorem wrap_u64c {c : Int} (h0 : 0 ≤ c) (h4 : c ≤ 4) : IntKind.u64.wrap c = c := by
 rcases (by omega : c = 0 ∨ c = 1 ∨ c = 2 ∨ c = 3 ∨ c = 4) with rfl | rfl | rfl | rfl | rfl <;> rfl
end Go.Proofs.YtglejdilghcbaaaGreatDoor
