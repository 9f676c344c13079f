import Derived.Test.YtdamokokcdcedaaGreatDoorF00Box
import Derived.Test.YtdamokokcdcedaaGreatDoorF45
namespace Go.Proofs.YtdamokokcdcedaaGreatDoor
open Go.ChangeShapes Go.WideShapes Go.ChangeAt Go.RowKit
set_option linter.unusedVariables false
set_option linter.unusedSimpArgs false
set_option maxHeartbeats 8000000 in
set_option maxRecDepth 100000 in
theorem fabLoop3 {Q0 : Exit → Act → World → Prop} {b0 b2 b4 b5 b6 b7 b8 b9 ba bc bd be bf bg bh bi bj bk bl bm bn bo bp bq br bs bt bu bv bw bx c0 c6 c7 c8 c9 ca cb cc cd ce cf cg ch ci cj ck cl cm cn co cp cq cr ct cu cv cw cx cy cz d0 d2 d4 d5 d6 d7 d8 d9 da db dd de df dg dh di dj dk dl dm dn dp dq dr dt du dv dw dx dy dz e8 e9 eb ed ee ef eg eh ei ej ek el em en eo ep er es et eu ev ew ey ez f0 f3 f4 f5 f6 f7 f8 f9 fa fb fc fd fe ff fg fh fi fj fk fl fm fn fo fp fq fr fs ft fu fv fw fx fy fz g0 g1 g2 g3 g4 g5 g6 g7 g8 g9 ga gb gc gd gf gg gh gi gj gk gl gm gn gp gq gr gs gu gv gw gx gy gz h0 h1 h2 h3 h4 h5 h6 h7 h8 h9 ha hb hc hd hf hg hh hi hk hl hm hn ho hp hq hr hs ht hu hw hy hz i0 i1 i2 i3 i4 i5 i6 i7 i8 i9 ia ib ic : Value} (x : FabricD) (a1 : Option Addr) (c1 : Nat) (b1 : Option Addr) (d1 : Nat) (a2 : Option Addr) (c2 : Nat) (a3 : Option Addr) (c3 : Nat) (b3 : Option Addr) (d3 : Nat) (a4 : Option Addr) (c4 : Nat) (a5 : Option Addr) (c5 : Nat) (w W1 : World) (RR : Hid (∀ W, Bl w W → FabRd W x a1 c1 b1 d1 a2 c2 a3 c3 b3 d3 a4 c4 a5 c5)) (HH : Hid (headF x = true)) (B : Bl w W1) (F : W1.heap[w.heap.size]? = some (.cells #[nI x.1.1, nI x.1.2.1, nI x.1.2.2.1, nI x.1.2.2.2, sL a1 x.2.1.1.length c1, sL b1 x.2.1.2.length d1, sL a2 x.2.2.1.length c2, sL a3 x.2.2.2.1.1.length c3, nI x.2.2.2.1.2.1, .bool x.2.2.2.1.2.2.1, sL b3 x.2.2.2.1.2.2.2.length d3, sL a4 x.2.2.2.2.1.length c4, sL a5 x.2.2.2.2.2.length c5] 49 (0, 0)))
    (HEX : Hid (∀ {ie ig ih ii ij ik il im io ip iq ir it iu iv iw ix iy iz j0 j1 j2 j3 j4 j5 j6 j7 j8 j9 ja jb jc jd je jf jg jh ji jj jk jl jm jn jo jp jq jr js jt ju jv jw jx jy jz k0 k1 k2 k3 k4 k5 k6 k7 k8 k9 ka kb kc kd ke kf kg kh ki kj kk kl km kn ko kp kq kr ks kt ku kv kw kx ky kz l0 l5 l6 l7 l8 l9 la lb lc ld lf lg lh li lj lk ll lm ln lo lp lq lr ls lu lv lw lx ly lz m0 m1 m2 m3 m4 m5 m6 m7 m8 m9 ma mb mc md me mf mg mh mi mj mk ml mm mn mo mp mq mr ms mt mu mv mw mx my mz n0 n1 n2 n3 n4 n5 n6 n7 n8 n9 na nb nc nd nf ng nh ni nj nk nl nm nn np nr ns nt nu nv nw nx ny nz o0 o3 o4 o5 o6 o7 o8 o9 oa ob oc od oe of og oh oi oj ok ol om on oo op oq os ot ou ov ow ox oy oz pa pb pc pd pe pf : Value} (V : World), x.2.1.2.all (entS x.1.1) = true → Bl w V → V.heap[w.heap.size]? = some (.cells #[nI x.1.1, nI x.1.2.1, nI x.1.2.2.1, nI x.1.2.2.2, sL a1 x.2.1.1.length c1, sL b1 x.2.1.2.length d1, sL a2 x.2.2.1.length c2, sL a3 x.2.2.2.1.1.length c3, nI x.2.2.2.1.2.1, .bool x.2.2.2.1.2.2.1, sL b3 x.2.2.2.1.2.2.2.length d3, sL a4 x.2.2.2.2.1.length c4, sL a5 x.2.2.2.2.2.length c5] 49 (0, 0)) → Q0 (.exit 4) ⟨List.toArray (ie :: .pointer (some ⟨w.heap.size, 0, none⟩) :: ig :: ih :: ii :: ij :: ik :: il :: im :: io :: ip :: iq :: ir :: it :: iu :: iv :: iw :: ix :: iy :: iz :: j0 :: j1 :: j2 :: j3 :: j4 :: j5 :: j6 :: j7 :: j8 :: j9 :: ja :: jb :: jc :: jd :: je :: jf :: jg :: jh :: ji :: jj :: jk :: jl :: jm :: jn :: jo :: jp :: jq :: jr :: js :: jt :: ju :: jv :: jw :: jx :: jy :: jz :: k0 :: k1 :: k2 :: k3 :: k4 :: k5 :: k6 :: k7 :: k8 :: k9 :: ka :: kb :: kc :: kd :: ke :: kf :: kg :: kh :: ki :: kj :: kk :: kl :: km :: kn :: ko :: kp :: kq :: kr :: ks :: kt :: ku :: kv :: kw :: kx :: ky :: kz :: l0 :: l5 :: l6 :: l7 :: l8 :: l9 :: la :: lb :: lc :: ld :: lf :: lg :: lh :: li :: lj :: lk :: ll :: lm :: ln :: lo :: lp :: lq :: lr :: ls :: lu :: lv :: lw :: lx :: ly :: lz :: m0 :: m1 :: m2 :: m3 :: m4 :: m5 :: m6 :: m7 :: m8 :: m9 :: ma :: mb :: mc :: md :: me :: mf :: mg :: mh :: mi :: mj :: mk :: ml :: mm :: mn :: mo :: mp :: mq :: mr :: ms :: mt :: mu :: mv :: mw :: mx :: my :: mz :: n0 :: n1 :: n2 :: n3 :: n4 :: n5 :: n6 :: n7 :: n8 :: n9 :: na :: nb :: nc :: nd :: nf :: ng :: nh :: ni :: nj :: nk :: nl :: nm :: nn :: np :: nr :: ns :: nt :: nu :: nv :: nw :: nx :: ny :: nz :: o0 :: o3 :: o4 :: o5 :: o6 :: o7 :: o8 :: o9 :: oa :: ob :: oc :: od :: oe :: of :: og :: oh :: oi :: oj :: ok :: ol :: om :: on :: oo :: op :: oq :: os :: ot :: ou :: ov :: ow :: ox :: oy :: oz :: pa :: pb :: pc :: pd :: pe :: pf :: []), []⟩ V))
    (HRT : Hid (∀ {ie ih ii ij ik il im io ip iq ir it iu iv iw ix iy iz j0 j1 j2 j3 j4 j5 j6 j7 j8 j9 ja jb jc jd je jf jg jh ji jj jk jl jm jn jo jp jq jr js jt ju jv jw jx jy jz k0 k1 k2 k3 k4 k5 k6 k7 k8 k9 ka kb kc kd ke kf kg kh ki kj kk kl km kn ko kp kq kr ks kt ku kv kw kx ky kz l0 l5 l6 l7 l8 l9 la lb lc ld lf lg lh li lj lk ll lm ln lo lp lq lr ls lu lv lw lx ly lz m0 m1 m2 m3 m4 m5 m6 m7 m8 m9 ma mb mc md me mf mg mh mi mj mk ml mm mn mo mp mq mr ms mt mu mv mw mx my mz n0 n1 n2 n3 n4 n5 n6 n7 n8 n9 na nb nc nd nf ng nh ni nj nk nl nm nn np nr ns nt nu nv nw nx ny nz o0 o3 o4 o5 o6 o7 o8 o9 oa ob oc od oe of og oh oi oj ok ol om on oo op oq os ot ou ov ow ox oy oz pa pb pc pd pe pf : Value} (V : World), fabS x = false → Bl w V → Q0 .ret ⟨List.toArray (ie :: .pointer (some ⟨w.heap.size, 0, none⟩) :: .bool false :: ih :: ii :: ij :: ik :: il :: im :: io :: ip :: iq :: ir :: it :: iu :: iv :: iw :: ix :: iy :: iz :: j0 :: j1 :: j2 :: j3 :: j4 :: j5 :: j6 :: j7 :: j8 :: j9 :: ja :: jb :: jc :: jd :: je :: jf :: jg :: jh :: ji :: jj :: jk :: jl :: jm :: jn :: jo :: jp :: jq :: jr :: js :: jt :: ju :: jv :: jw :: jx :: jy :: jz :: k0 :: k1 :: k2 :: k3 :: k4 :: k5 :: k6 :: k7 :: k8 :: k9 :: ka :: kb :: kc :: kd :: ke :: kf :: kg :: kh :: ki :: kj :: kk :: kl :: km :: kn :: ko :: kp :: kq :: kr :: ks :: kt :: ku :: kv :: kw :: kx :: ky :: kz :: l0 :: l5 :: l6 :: l7 :: l8 :: l9 :: la :: lb :: lc :: ld :: lf :: lg :: lh :: li :: lj :: lk :: ll :: lm :: ln :: lo :: lp :: lq :: lr :: ls :: lu :: lv :: lw :: lx :: ly :: lz :: m0 :: m1 :: m2 :: m3 :: m4 :: m5 :: m6 :: m7 :: m8 :: m9 :: ma :: mb :: mc :: md :: me :: mf :: mg :: mh :: mi :: mj :: mk :: ml :: mm :: mn :: mo :: mp :: mq :: mr :: ms :: mt :: mu :: mv :: mw :: mx :: my :: mz :: n0 :: n1 :: n2 :: n3 :: n4 :: n5 :: n6 :: n7 :: n8 :: n9 :: na :: nb :: nc :: nd :: nf :: ng :: nh :: ni :: nj :: nk :: nl :: nm :: nn :: np :: nr :: ns :: nt :: nu :: nv :: nw :: nx :: ny :: nz :: o0 :: o3 :: o4 :: o5 :: o6 :: o7 :: o8 :: o9 :: oa :: ob :: oc :: od :: oe :: of :: og :: oh :: oi :: oj :: ok :: ol :: om :: on :: oo :: op :: oq :: os :: ot :: ou :: ov :: ow :: ox :: oy :: oz :: pa :: pb :: pc :: pd :: pe :: pf :: []), []⟩ V)) :
    Code.wp Tryz.prog (Code.loop (fabCode 2)) Q0 ⟨List.toArray (b0 :: .pointer (some ⟨w.heap.size, 0, none⟩) :: b2 :: b4 :: b5 :: b6 :: nI 0 :: b7 :: b8 :: b9 :: ba :: bc :: bd :: be :: bf :: bg :: bh :: bi :: bj :: bk :: bl :: bm :: bn :: bo :: bp :: bq :: br :: bs :: bt :: bu :: bv :: bw :: bx :: c0 :: c6 :: c7 :: c8 :: c9 :: ca :: cb :: cc :: cd :: ce :: cf :: cg :: ch :: ci :: cj :: ck :: cl :: cm :: cn :: co :: cp :: cq :: cr :: ct :: cu :: cv :: cw :: cx :: cy :: cz :: d0 :: d2 :: d4 :: d5 :: d6 :: d7 :: d8 :: d9 :: da :: db :: dd :: de :: df :: dg :: dh :: di :: dj :: dk :: dl :: dm :: dn :: dp :: dq :: dr :: dt :: du :: dv :: dw :: dx :: dy :: dz :: e8 :: e9 :: eb :: ed :: ee :: ef :: eg :: eh :: ei :: ej :: ek :: el :: em :: en :: eo :: ep :: er :: es :: et :: eu :: ev :: ew :: ey :: ez :: f0 :: f3 :: f4 :: f5 :: f6 :: f7 :: f8 :: f9 :: fa :: fb :: fc :: fd :: fe :: ff :: fg :: fh :: fi :: fj :: fk :: fl :: fm :: fn :: fo :: fp :: fq :: fr :: fs :: ft :: fu :: fv :: fw :: fx :: fy :: fz :: g0 :: g1 :: g2 :: g3 :: g4 :: g5 :: g6 :: g7 :: g8 :: g9 :: ga :: gb :: gc :: gd :: gf :: gg :: gh :: gi :: gj :: gk :: gl :: gm :: gn :: gp :: gq :: gr :: gs :: gu :: gv :: gw :: gx :: gy :: gz :: h0 :: h1 :: h2 :: h3 :: h4 :: h5 :: h6 :: h7 :: h8 :: h9 :: ha :: hb :: hc :: hd :: hf :: hg :: hh :: hi :: hk :: hl :: hm :: hn :: ho :: hp :: hq :: hr :: hs :: ht :: hu :: hw :: hy :: hz :: i0 :: i1 :: i2 :: i3 :: i4 :: i5 :: i6 :: i7 :: i8 :: i9 :: ia :: ib :: ic :: []), []⟩ W1 := by
 have l1 : x.2.1.2.length ≤ 9223372036854775807 := (RR.out _ B).bookl;have l2 : x.2.2.1.length ≤ 9223372036854775807 := (RR.out _ B).coresl;have l3 : x.2.2.2.2.1.length ≤ 9223372036854775807 := (RR.out _ B).netl;have l4 : x.2.2.2.2.2.length ≤ 9223372036854775807 := (RR.out _ B).evsl;conv => arg 2; arg 1; whnf
 go_loopw [6] (fun i wr => UptoF w x a1 b1 a2 a3 b3 a4 a5 c1 d1 c2 c3 d3 c4 c5 x.2.1.2.length (fun j => ∀ v, x.2.1.2[j]? = some v → entS x.1.1 v = true) i wr) (fun i _ => x.2.1.2.length - (intOf i).toNat)
 case atStart => exact ⟨⟨0, Nat.zero_le _, rfl, fun j hj => by omega, B, F⟩⟩
 clear B F
 case round =>
  obtain ⟨k, nA, rfl, n, g, a⟩ := hrel.ex;clear hrel;by_cases J : k < x.2.1.2.length
  ·have vA : (k : Int) < (x.2.1.2.length : Int) := by omega
   obtain ⟨u, hx⟩ : ∃ u, x.2.1.2[k]? = some u := ⟨_, List.getElem?_eq_getElem J⟩;have R := RR.out _ g;obtain ⟨bb, LA, cs, ra, o, l⟩ := slrd_at R.book hx;obtain ⟨ea, ec, rfl⟩ := ent_shape o;obtain ⟨x0, x1, x2, x3, x4, x5, x6, x7⟩ := cellsAt8 l rfl;have HX : Hid (x.2.1.2[k]? = some u) := hx;have fA : bb < wr.heap.size := cell_lt x0;subst ra;have b : Hid (entS x.1.1 u = false → fabS x = false) := fun q => by have := all_not HX.out q; unfold fabS; rw [this]; simp
   clear hx l o R;obtain ⟨G, s, A, z, C, p, r, H, D, y, d, c, f⟩ := cells_fabric a;have qA := (ltH a);have E := heap_at wr (.cells #[nI u.1, nI u.2.1, .bool u.2.2.1, nI u.2.2.2.1, nI u.2.2.2.2.1, nI u.2.2.2.2.2.1, nI u.2.2.2.2.2.2.1, sL ea u.2.2.2.2.2.2.2.length ec] 101);have bz := box_below wr (.cells #[nI u.1, nI u.2.1, .bool u.2.2.1, nI u.2.2.2.1, nI u.2.2.2.2.1, nI u.2.2.2.2.2.1, nI u.2.2.2.2.2.2.1, sL ea u.2.2.2.2.2.2.2.length ec] 101);go_upto_region 18 with fail
   clear G s A z C p r H D y d c f qA x0 x1 x2 x3 x4 x5 x6 x7 fA;replace a := row_keep bz a;replace g := below_step g bz;clear bz;generalize wr.alloc (.cells #[nI u.1, nI u.2.1, .bool u.2.2.1, nI u.2.2.2.1, nI u.2.2.2.2.1, nI u.2.2.2.2.2.1, nI u.2.2.2.2.2.2.1, sL ea u.2.2.2.2.2.2.2.length ec] 101) = wv at E g a ⊢;have jA : 1 ≤ x.1.1 ∧ x.1.1 ≤ 4 := by
    have q := HH.out;simp only [headF, Bool.and_eq_true, decide_eq_true_eq] at q;exact (code_cores q.1).1
   obtain ⟨EA, kA⟩ := jA;have cA : 0 ≤ x.1.1 := by omega
   have zA : x.1.1 ≤ 64 := by omega
   have UA : x.1.1.toNat ≤ 4 := by omega
   have TA : IntKind.i64.wrap (2 ^ x.1.1.toNat) = 2 ^ x.1.1.toNat := by
    rcases (by omega : x.1.1.toNat = 0 ∨ x.1.1.toNat = 1 ∨ x.1.1.toNat = 2 ∨ x.1.1.toNat = 3 ∨ x.1.1.toNat = 4) with q | q | q | q | q <;> rw [q] <;> rfl
   have CA : IntKind.u64.wrap x.1.1 = x.1.1 := wrap_u64c cA kA;by_cases K : u.1 < x.1.1
   ·have o2 : ¬ (x.1.1 ≤ u.1) := by omega
    by_cases s1 : u.2.1 < 2 ^ x.1.1.toNat
    ·have s2 : ¬ (2 ^ x.1.1.toNat ≤ u.2.1) := by omega
     have Z : Hid (u.1 < x.1.1 ∧ u.2.1 < 2 ^ x.1.1.toNat) := ⟨K, s1⟩;clear K s1;by_cases f1 : u.2.2.2.2.1 < 4
     ·by_cases f2 : x.1.1 ≤ u.2.2.2.2.1
      ·have I : Hid (u.2.2.2.2.1 < 4 ∧ x.1.1 ≤ u.2.2.2.2.1) := ⟨f1, f2⟩;have L : Hid (fabS x = false) := b.out (by unfold entS; simp [I.out.1, I.out.2]);clear b;obtain ⟨G, s, A, z, C, p, r, H, D, y, d, c, f⟩ := cells_fabric a;obtain ⟨M, U, N, O, Y, T, X, S⟩ := cells_8 E;clear E a;go_wp2;exact HRT.out _ L.out g
      ·have I : Hid (¬ x.1.1 ≤ u.2.2.2.2.1) := f2;have HP : Hid (entS x.1.1 u = true) := by unfold Hid entS; simp [Z.out.1, Z.out.2, I.out]
       clear b;have m : Hid (∀ j, j < k + 1 → ∀ v, x.2.1.2[j]? = some v → entS x.1.1 v = true) := fun j hj v hv => by
        by_cases he : j < k
        ·exact n j he v hv
        ·have : j = k := by omega
         subst this;rw [HX.out] at hv;cases hv;exact HP.out
       obtain ⟨G, s, A, z, C, p, r, H, D, y, d, c, f⟩ := cells_fabric a;obtain ⟨M, U, N, O, Y, T, X, S⟩ := cells_8 E;clear E;go_wp2;go_roundw
       case rel =>
        first
         | exact ⟨⟨k + 1, by omega, by go_num, m.out, g, a⟩⟩
         | (repeat (apply Exists.intro)
            refine ⟨?_, rfl⟩
            exact ⟨⟨k + 1, by omega, by go_num, m.out, g, a⟩⟩)
       case measure => simp [intOf]; omega
     ·have I : Hid (¬ u.2.2.2.2.1 < 4) := f1;have HP : Hid (entS x.1.1 u = true) := by unfold Hid entS; simp [Z.out.1, Z.out.2, I.out]
      clear b;have m : Hid (∀ j, j < k + 1 → ∀ v, x.2.1.2[j]? = some v → entS x.1.1 v = true) := fun j hj v hv => by
       by_cases he : j < k
       ·exact n j he v hv
       ·have : j = k := by omega
        subst this;rw [HX.out] at hv;cases hv;exact HP.out
      obtain ⟨G, s, A, z, C, p, r, H, D, y, d, c, f⟩ := cells_fabric a;obtain ⟨M, U, N, O, Y, T, X, S⟩ := cells_8 E;clear E;go_wp2;go_roundw
      case rel =>
       first
        | exact ⟨⟨k + 1, by omega, by go_num, m.out, g, a⟩⟩
        | (repeat (apply Exists.intro)
           refine ⟨?_, rfl⟩
           exact ⟨⟨k + 1, by omega, by go_num, m.out, g, a⟩⟩)
      case measure => simp [intOf]; omega
    ·have s2 : 2 ^ x.1.1.toNat ≤ u.2.1 := by omega
     have mA : Hid (¬ u.2.1 < 2 ^ x.1.1.toNat) := s1;clear K s1;have L : Hid (fabS x = false) := b.out (by unfold entS; simp [mA.out]);clear b;obtain ⟨G, s, A, z, C, p, r, H, D, y, d, c, f⟩ := cells_fabric a;obtain ⟨M, U, N, O, Y, T, X, S⟩ := cells_8 E;clear E a;go_wp2;exact HRT.out _ L.out g
   ·have o2 : x.1.1 ≤ u.1 := by omega
    have bA : Hid (¬ u.1 < x.1.1) := K;clear K;have L : Hid (fabS x = false) := b.out (by unfold entS; simp [bA.out]);clear b;obtain ⟨G, s, A, z, C, p, r, H, D, y, d, c, f⟩ := cells_fabric a;obtain ⟨M, U, N, O, Y, T, X, S⟩ := cells_8 E;clear E a;go_wp2;exact HRT.out _ L.out g
  ·have HA : Hid (x.2.1.2.all (entS x.1.1) = true) := all_upto fun j v hv => n j (by have := (List.getElem?_eq_some_iff.1 hv).1; omega) v hv;have FA : ¬ ((k : Int) < (x.2.1.2.length : Int)) := by omega
   clear n nA J;obtain ⟨G, s, A, z, C, p, r, H, D, y, d, c, f⟩ := cells_fabric a;go_wp2;exact HEX.out _ HA.out g a
end Go.Proofs.YtdamokokcdcedaaGreatDoor
