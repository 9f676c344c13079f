import Derived.Test.YtiiipclglngdhaaGreatDoorQ00Box
import Derived.Test.YtiiipclglngdhaaGreatDoorQ45RunB
namespace Go.Proofs.YtiiipclglngdhaaGreatDoor
open Go.ChangeShapes Go.WideShapes Go.ChangeAt Go.RowKit
set_option linter.unusedVariables false
set_option linter.unusedSimpArgs false
set_option maxHeartbeats 8000000 in
set_option maxRecDepth 100000 in
theorem fabLoop1 {Q0 : Exit → Act → World → Prop} {b0 b2 b4 b5 b6 b7 b8 b9 ba bc bd be bf bg bh bi bj bk bl bm bn bo bp br bs bt bu bv bw bx c0 c6 c7 c8 c9 ca cb cc cd ce cf cg ch ci cj ck cl cm cn co cp cq cr ct cu cv cw cx cy cz d0 d2 d4 d5 d6 d7 d8 d9 da db dd de df dg dh di dj dk dl dm dn dp dq dr dt du dv dw dx dy dz ea eb ec ed ee ef eg eh ei ej ek el em en eo ep er es et eu ev ew ey ez f0 f1 f2 f3 f4 f5 f6 f7 f8 f9 fa fb fc fd fe ff fg fh fi fj fk fl fm fn fo fp fq fr fs ft fu fv fw fx fy fz g0 g1 g2 g3 g4 g5 g6 g7 g8 g9 ga gb gc gd gf gg gh gi gj gk gl gm gn gp gq gr gs gu gv gw gx gy gz h0 h1 h2 h3 h4 h5 h6 h7 h8 h9 ha hd hf hg hh hi hk hl hm hn ho hp hq hr ht hu hw i0 i1 i2 i3 i4 i5 i6 i7 i8 i9 ia ib ic ie ig ih ii : Value} (x : FabricD) (a1 : Option Addr) (c1 : Nat) (b1 : Option Addr) (d1 : Nat) (a2 : Option Addr) (c2 : Nat) (a3 : Option Addr) (c3 : Nat) (b3 : Option Addr) (d3 : Nat) (a4 : Option Addr) (c4 : Nat) (a5 : Option Addr) (c5 : Nat) (w W1 : World) (RR : Hid (∀ W, Below w.heap.size w W → FabRd W x a1 c1 b1 d1 a2 c2 a3 c3 b3 d3 a4 c4 a5 c5)) (HH : Hid (headF x = true)) (B : Below w.heap.size w W1) (F : W1.heap[w.heap.size]? = some (.cells #[.int .i64 x.1.1, .int .i64 x.1.2.1, .int .i64 x.1.2.2.1, .int .i64 x.1.2.2.2, .slice a1 x.2.1.1.length c1, .slice b1 x.2.1.2.length d1, .slice a2 x.2.2.1.length c2, .slice a3 x.2.2.2.1.1.length c3, .int .i64 x.2.2.2.1.2.1, .bool x.2.2.2.1.2.2.1, .slice b3 x.2.2.2.1.2.2.2.length d3, .slice a4 x.2.2.2.2.1.length c4, .slice a5 x.2.2.2.2.2.length c5] 49 (0, 0)))
    (HEX : Hid (∀ {ij ik il im io ip iq ir it iu iv iw ix iy iz j0 j1 j2 j3 j4 j5 j6 j7 j8 j9 ja jb jc jd je jf jg jh ji jj jk jl jm jn jo jp jq jr js jt ju jv jw jx jy jz k0 k1 k2 k3 k4 k5 k6 k7 k8 k9 ka kb kc kd ke kf kg kh ki kj kk kl km kn ko kq kr ks kt ku kv kw kx ky kz l0 l5 l6 l7 l8 l9 la lb lc ld lf lg lh li lj lk ll lm ln lo lp lq lr ls lu lv lw lx ly lz m0 m1 m2 m3 m4 m5 m6 m7 m8 m9 ma mb mc md me mf mg mh mi mj mk ml mm mn mo mp mq mr ms mt mu mv mw mx my mz n0 n1 n2 n3 n4 n5 n6 n7 n8 n9 na nb nc nd nf ng nh ni nj nk nl nm nn np nr ns nt nu nv nw nx ny nz o0 o1 o2 o3 o4 o5 o6 o7 o8 o9 oa ob oc od oe of og oh oi oj ok ol om on oo op oq os ot ou ov ow ox oy oz pa pb pc pd pe pf pg ph pi : Value} (V : World), x.2.2.1.all (coreS x.1.1 x.1.2.1 x.1.2.2.1 x.1.2.2.2) = true → Below w.heap.size w V → V.heap[w.heap.size]? = some (.cells #[.int .i64 x.1.1, .int .i64 x.1.2.1, .int .i64 x.1.2.2.1, .int .i64 x.1.2.2.2, .slice a1 x.2.1.1.length c1, .slice b1 x.2.1.2.length d1, .slice a2 x.2.2.1.length c2, .slice a3 x.2.2.2.1.1.length c3, .int .i64 x.2.2.2.1.2.1, .bool x.2.2.2.1.2.2.1, .slice b3 x.2.2.2.1.2.2.2.length d3, .slice a4 x.2.2.2.2.1.length c4, .slice a5 x.2.2.2.2.2.length c5] 49 (0, 0)) → Q0 (.exit 0) ⟨List.toArray (ij :: .pointer (some ⟨w.heap.size, 0, none⟩) :: ik :: il :: im :: io :: ip :: iq :: ir :: it :: iu :: iv :: iw :: ix :: iy :: iz :: j0 :: j1 :: j2 :: j3 :: j4 :: j5 :: j6 :: j7 :: j8 :: j9 :: ja :: jb :: jc :: jd :: je :: jf :: jg :: jh :: ji :: jj :: jk :: jl :: jm :: jn :: jo :: jp :: jq :: jr :: js :: jt :: ju :: jv :: jw :: jx :: jy :: jz :: k0 :: k1 :: k2 :: k3 :: k4 :: k5 :: k6 :: k7 :: k8 :: k9 :: ka :: kb :: kc :: kd :: ke :: kf :: kg :: kh :: ki :: kj :: kk :: kl :: km :: kn :: ko :: kq :: kr :: ks :: kt :: ku :: kv :: kw :: kx :: ky :: kz :: l0 :: l5 :: l6 :: l7 :: l8 :: l9 :: la :: lb :: lc :: ld :: lf :: lg :: lh :: li :: lj :: lk :: ll :: lm :: ln :: lo :: lp :: lq :: lr :: ls :: lu :: lv :: lw :: lx :: ly :: lz :: m0 :: m1 :: m2 :: m3 :: m4 :: m5 :: m6 :: m7 :: m8 :: m9 :: ma :: mb :: mc :: md :: me :: mf :: mg :: mh :: mi :: mj :: mk :: ml :: mm :: mn :: mo :: mp :: mq :: mr :: ms :: mt :: mu :: mv :: mw :: mx :: my :: mz :: n0 :: n1 :: n2 :: n3 :: n4 :: n5 :: n6 :: n7 :: n8 :: n9 :: na :: nb :: nc :: nd :: nf :: ng :: nh :: ni :: nj :: nk :: nl :: nm :: nn :: np :: nr :: ns :: nt :: nu :: nv :: nw :: nx :: ny :: nz :: o0 :: o1 :: o2 :: o3 :: o4 :: o5 :: o6 :: o7 :: o8 :: o9 :: oa :: ob :: oc :: od :: oe :: of :: og :: oh :: oi :: oj :: ok :: ol :: om :: on :: oo :: op :: oq :: os :: ot :: ou :: ov :: ow :: ox :: oy :: oz :: pa :: pb :: pc :: pd :: pe :: pf :: pg :: ph :: pi :: []), []⟩ V))
    (HRT : Hid (∀ {ij il im io ip iq ir it iu iv iw ix iy iz j0 j1 j2 j3 j4 j5 j6 j7 j8 j9 ja jb jc jd je jf jg jh ji jj jk jl jm jn jo jp jq jr js jt ju jv jw jx jy jz k0 k1 k2 k3 k4 k5 k6 k7 k8 k9 ka kb kc kd ke kf kg kh ki kj kk kl km kn ko kq kr ks kt ku kv kw kx ky kz l0 l5 l6 l7 l8 l9 la lb lc ld lf lg lh li lj lk ll lm ln lo lp lq lr ls lu lv lw lx ly lz m0 m1 m2 m3 m4 m5 m6 m7 m8 m9 ma mb mc md me mf mg mh mi mj mk ml mm mn mo mp mq mr ms mt mu mv mw mx my mz n0 n1 n2 n3 n4 n5 n6 n7 n8 n9 na nb nc nd nf ng nh ni nj nk nl nm nn np nr ns nt nu nv nw nx ny nz o0 o1 o2 o3 o4 o5 o6 o7 o8 o9 oa ob oc od oe of og oh oi oj ok ol om on oo op oq os ot ou ov ow ox oy oz pa pb pc pd pe pf pg ph pi : Value} (V : World), fabS x = false → Below w.heap.size w V → Q0 .ret ⟨List.toArray (ij :: .pointer (some ⟨w.heap.size, 0, none⟩) :: .bool false :: il :: im :: io :: ip :: iq :: ir :: it :: iu :: iv :: iw :: ix :: iy :: iz :: j0 :: j1 :: j2 :: j3 :: j4 :: j5 :: j6 :: j7 :: j8 :: j9 :: ja :: jb :: jc :: jd :: je :: jf :: jg :: jh :: ji :: jj :: jk :: jl :: jm :: jn :: jo :: jp :: jq :: jr :: js :: jt :: ju :: jv :: jw :: jx :: jy :: jz :: k0 :: k1 :: k2 :: k3 :: k4 :: k5 :: k6 :: k7 :: k8 :: k9 :: ka :: kb :: kc :: kd :: ke :: kf :: kg :: kh :: ki :: kj :: kk :: kl :: km :: kn :: ko :: kq :: kr :: ks :: kt :: ku :: kv :: kw :: kx :: ky :: kz :: l0 :: l5 :: l6 :: l7 :: l8 :: l9 :: la :: lb :: lc :: ld :: lf :: lg :: lh :: li :: lj :: lk :: ll :: lm :: ln :: lo :: lp :: lq :: lr :: ls :: lu :: lv :: lw :: lx :: ly :: lz :: m0 :: m1 :: m2 :: m3 :: m4 :: m5 :: m6 :: m7 :: m8 :: m9 :: ma :: mb :: mc :: md :: me :: mf :: mg :: mh :: mi :: mj :: mk :: ml :: mm :: mn :: mo :: mp :: mq :: mr :: ms :: mt :: mu :: mv :: mw :: mx :: my :: mz :: n0 :: n1 :: n2 :: n3 :: n4 :: n5 :: n6 :: n7 :: n8 :: n9 :: na :: nb :: nc :: nd :: nf :: ng :: nh :: ni :: nj :: nk :: nl :: nm :: nn :: np :: nr :: ns :: nt :: nu :: nv :: nw :: nx :: ny :: nz :: o0 :: o1 :: o2 :: o3 :: o4 :: o5 :: o6 :: o7 :: o8 :: o9 :: oa :: ob :: oc :: od :: oe :: of :: og :: oh :: oi :: oj :: ok :: ol :: om :: on :: oo :: op :: oq :: os :: ot :: ou :: ov :: ow :: ox :: oy :: oz :: pa :: pb :: pc :: pd :: pe :: pf :: pg :: ph :: pi :: []), []⟩ V)) :
    Code.wp Tryz.prog (Code.loop (fabCode 0)) Q0 ⟨List.toArray (b0 :: .pointer (some ⟨w.heap.size, 0, none⟩) :: b2 :: .int .i64 0 :: b4 :: b5 :: b6 :: b7 :: b8 :: b9 :: ba :: bc :: bd :: be :: bf :: bg :: bh :: bi :: bj :: bk :: bl :: bm :: bn :: bo :: bp :: br :: bs :: bt :: bu :: bv :: bw :: bx :: c0 :: c6 :: c7 :: c8 :: c9 :: ca :: cb :: cc :: cd :: ce :: cf :: cg :: ch :: ci :: cj :: ck :: cl :: cm :: cn :: co :: cp :: cq :: cr :: ct :: cu :: cv :: cw :: cx :: cy :: cz :: d0 :: d2 :: d4 :: d5 :: d6 :: d7 :: d8 :: d9 :: da :: db :: dd :: de :: df :: dg :: dh :: di :: dj :: dk :: dl :: dm :: dn :: dp :: dq :: dr :: dt :: du :: dv :: dw :: dx :: dy :: dz :: ea :: eb :: ec :: ed :: ee :: ef :: eg :: eh :: ei :: ej :: ek :: el :: em :: en :: eo :: ep :: er :: es :: et :: eu :: ev :: ew :: ey :: ez :: f0 :: f1 :: f2 :: f3 :: f4 :: f5 :: f6 :: f7 :: f8 :: f9 :: fa :: fb :: fc :: fd :: fe :: ff :: fg :: fh :: fi :: fj :: fk :: fl :: fm :: fn :: fo :: fp :: fq :: fr :: fs :: ft :: fu :: fv :: fw :: fx :: fy :: fz :: g0 :: g1 :: g2 :: g3 :: g4 :: g5 :: g6 :: g7 :: g8 :: g9 :: ga :: gb :: gc :: gd :: gf :: gg :: gh :: gi :: gj :: gk :: gl :: gm :: gn :: gp :: gq :: gr :: gs :: gu :: gv :: gw :: gx :: gy :: gz :: h0 :: h1 :: h2 :: h3 :: h4 :: h5 :: h6 :: h7 :: h8 :: h9 :: ha :: hd :: hf :: hg :: hh :: hi :: hk :: hl :: hm :: hn :: ho :: hp :: hq :: hr :: ht :: hu :: hw :: i0 :: i1 :: i2 :: i3 :: i4 :: i5 :: i6 :: i7 :: i8 :: i9 :: ia :: ib :: ic :: ie :: ig :: ih :: ii :: []), []⟩ W1 := by
 have l1 : x.2.1.2.length ≤ 9223372036854775807 := (RR.out _ B).bookl
 have l2 : x.2.2.1.length ≤ 9223372036854775807 := (RR.out _ B).coresl
 have l3 : x.2.2.2.2.1.length ≤ 9223372036854775807 := (RR.out _ B).netl
 have l4 : x.2.2.2.2.2.length ≤ 9223372036854775807 := (RR.out _ B).evsl
 conv => arg 2; arg 1; whnf
 go_loopw [3] (fun i wr => UptoF w x a1 b1 a2 a3 b3 a4 a5 c1 d1 c2 c3 d3 c4 c5 x.2.2.1.length (fun j => ∀ v, x.2.2.1[j]? = some v → coreS x.1.1 x.1.2.1 x.1.2.2.1 x.1.2.2.2 v = true) i wr) (fun i _ => x.2.2.1.length - (intOf i).toNat)
 case atStart => exact ⟨⟨0, Nat.zero_le _, rfl, fun j hj => by omega, B, F⟩⟩
 clear B F
 case round =>
  obtain ⟨k, hkk, rfl, hno, BB, XX⟩ := hrel.ex
  clear hrel
  by_cases hlt : k < x.2.2.1.length
  ·have hlt' : (k : Int) < (x.2.2.1.length : Int) := by omega
   obtain ⟨u, hx⟩ : ∃ u, x.2.2.1[k]? = some u := ⟨_, List.getElem?_eq_getElem hlt⟩
   have R := RR.out _ BB
   obtain ⟨bb, off, cs, ra, hrdx, hcell⟩ := slrd_at R.cores hx
   have HRX : Hid (coreR.rd wr cs u) := hrdx
   obtain ⟨v0, v1, v2, v5, v6, v7, v8, rfl, r0, r1, -, -, r4, -⟩ := core_rd hrdx
   obtain ⟨gau, gcu, gbu, gdu, hau, hcu, iau, icu, jau, jcu, e9⟩ := core_shape HRX.out
   simp only [List.cons.injEq, and_true] at e9
   obtain ⟨rfl, rfl, rfl, -, -, rfl, rfl, rfl, rfl⟩ := e9
   obtain ⟨z1, z2, z3, z4, ze, -, -, -, -, sk, -⟩ := cache_rd r0
   simp only [List.cons.injEq, Value.slice.injEq, and_true, true_and] at ze
   obtain ⟨⟨rfl, rfl⟩, ⟨rfl, rfl⟩⟩ := ze
   obtain ⟨y1, y2, ye, py1, py2, pq⟩ := r1
   simp only [List.cons.injEq, Value.slice.injEq, and_true, true_and] at ye
   obtain ⟨rfl, rfl⟩ := ye
   obtain ⟨x0, x1, x2, x3, x4, x5, x6, x7, x8⟩ := cellsAt9 hcell rfl
   have HX : Hid (x.2.2.1[k]? = some u) := hx
   have xlt : bb < wr.heap.size := cell_lt x0
   subst ra
   have HKO : Hid (∀ W, Below wr.heap.size wr W → Calls Tryz.prog 46 #[.agg #[.slice gau u.1.1.length gcu, .slice gbu u.1.2.length gdu, .slice hau u.2.1.length hcu, .int .i64 u.2.2.1, .int .i64 u.2.2.2.1, .int .i64 u.2.2.2.2.1.1, .int .i64 u.2.2.2.2.1.2.1, .slice iau u.2.2.2.2.1.2.2.length icu, .slice jau u.2.2.2.2.2.length jcu]] W fun e w' => e = .returned (.bool (coreB u)) ∧ Below W.heap.size W w') := fun W hb => specCoreOk_u _ u W (rd_next HRX.out hb)
   have HPC : Hid (∀ W, Below wr.heap.size wr W → Calls Tryz.prog 47 #[.agg #[.int .i64 x.1.1, .int .i64 x.1.2.1, .int .i64 x.1.2.2.1, .int .i64 x.1.2.2.2], .slice hau u.2.1.length hcu] W fun e w' => e = .returned (.int .i64 (progI x.1.1 x.1.2.1 x.1.2.2.1 x.1.2.2.2 u.2.1)) ∧ Below W.heap.size W w') := fun W hb => specProgramCode_any x.1.1 x.1.2.1 x.1.2.2.1 x.1.2.2.2 hau u.2.1 hcu W (slrd_next pq hb) (Nat.le_trans py1 py2)
   have HSK : Hid (SlRd waysR wr gau u.1.1) := sk
   have HNA : Hid (coreS x.1.1 x.1.2.1 x.1.2.2.1 x.1.2.2.2 u = false → fabS x = false) := fun q => by have := all_not HX.out q; unfold fabS; rw [this]; simp
   clear hx hcell hrdx r0 r4 pq py1 py2 sk HRX R
   obtain ⟨p0, p1, p2, p3, p4, p5, p6, p7, p8, p9, p10, p11, p12⟩ := cells_fabric XX
   have plt := (Array.getElem?_eq_some_iff.1 XX).1
   have E := heap_at wr (.cells #[.slice gau u.1.1.length gcu, .slice gbu u.1.2.length gdu, .slice hau u.2.1.length hcu, .int .i64 u.2.2.1, .int .i64 u.2.2.2.1, .int .i64 u.2.2.2.2.1.1, .int .i64 u.2.2.2.2.1.2.1, .slice iau u.2.2.2.2.1.2.2.length icu, .slice jau u.2.2.2.2.2.length jcu] 80)
   have bz := box_below wr (.cells #[.slice gau u.1.1.length gcu, .slice gbu u.1.2.length gdu, .slice hau u.2.1.length hcu, .int .i64 u.2.2.1, .int .i64 u.2.2.2.1, .int .i64 u.2.2.2.2.1.1, .int .i64 u.2.2.2.2.1.2.1, .slice iau u.2.2.2.2.1.2.2.length icu, .slice jau u.2.2.2.2.2.length jcu] 80)
   go_upto_region 7 with fail
   clear p0 p1 p2 p3 p4 p5 p6 p7 p8 p9 p10 p11 p12 plt x0 x1 x2 x3 x4 x5 x6 x7 x8 xlt
   replace XX := row_keep bz XX
   have B0 : Hid _ := And.intro BB bz
   replace BB := below_step BB bz
   clear bz
   generalize wr.alloc (.cells #[.slice gau u.1.1.length gcu, .slice gbu u.1.2.length gdu, .slice hau u.2.1.length hcu, .int .i64 u.2.2.1, .int .i64 u.2.2.2.1, .int .i64 u.2.2.2.2.1.1, .int .i64 u.2.2.2.2.1.2.1, .slice iau u.2.2.2.2.1.2.2.length icu, .slice jau u.2.2.2.2.2.length jcu] 80) = wv at E BB XX B0 ⊢
   obtain ⟨p0, p1, p2, p3, p4, p5, p6, p7, p8, p9, p10, p11, p12⟩ := cells_fabric XX
   obtain ⟨e0, e1, e2, e3, e4, e5, e6, e7, e8⟩ := cells_core E
   have p0k : ∀ n' : Cls (fun wx => Below wv.heap.size wv wx), n'.w.cell? ⟨w.heap.size, 0, none⟩ = some (.int .i64 x.1.1) := fun n' => cell_keep n'.h p0 (cell_lt p0)
   have p1k : ∀ n' : Cls (fun wx => Below wv.heap.size wv wx), n'.w.cell? ⟨w.heap.size, 1, none⟩ = some (.int .i64 x.1.2.1) := fun n' => cell_keep n'.h p1 (cell_lt p1)
   have p2k : ∀ n' : Cls (fun wx => Below wv.heap.size wv wx), n'.w.cell? ⟨w.heap.size, 2, none⟩ = some (.int .i64 x.1.2.2.1) := fun n' => cell_keep n'.h p2 (cell_lt p2)
   have p3k : ∀ n' : Cls (fun wx => Below wv.heap.size wv wx), n'.w.cell? ⟨w.heap.size, 3, none⟩ = some (.int .i64 x.1.2.2.2) := fun n' => cell_keep n'.h p3 (cell_lt p3)
   have e0k : ∀ n' : Cls (fun wx => Below wv.heap.size wv wx), n'.w.cell? ⟨wr.heap.size, 0, none⟩ = some (.slice gau u.1.1.length gcu) := fun n' => cell_keep n'.h e0 (cell_lt e0)
   have e1k : ∀ n' : Cls (fun wx => Below wv.heap.size wv wx), n'.w.cell? ⟨wr.heap.size, 1, none⟩ = some (.slice gbu u.1.2.length gdu) := fun n' => cell_keep n'.h e1 (cell_lt e1)
   have e2k : ∀ n' : Cls (fun wx => Below wv.heap.size wv wx), n'.w.cell? ⟨wr.heap.size, 2, none⟩ = some (.slice hau u.2.1.length hcu) := fun n' => cell_keep n'.h e2 (cell_lt e2)
   have e3k : ∀ n' : Cls (fun wx => Below wv.heap.size wv wx), n'.w.cell? ⟨wr.heap.size, 3, none⟩ = some (.int .i64 u.2.2.1) := fun n' => cell_keep n'.h e3 (cell_lt e3)
   have e4k : ∀ n' : Cls (fun wx => Below wv.heap.size wv wx), n'.w.cell? ⟨wr.heap.size, 4, none⟩ = some (.int .i64 u.2.2.2.1) := fun n' => cell_keep n'.h e4 (cell_lt e4)
   have e5k : ∀ n' : Cls (fun wx => Below wv.heap.size wv wx), n'.w.cell? ⟨wr.heap.size, 5, none⟩ = some (.int .i64 u.2.2.2.2.1.1) := fun n' => cell_keep n'.h e5 (cell_lt e5)
   have e6k : ∀ n' : Cls (fun wx => Below wv.heap.size wv wx), n'.w.cell? ⟨wr.heap.size, 6, none⟩ = some (.int .i64 u.2.2.2.2.1.2.1) := fun n' => cell_keep n'.h e6 (cell_lt e6)
   have e7k : ∀ n' : Cls (fun wx => Below wv.heap.size wv wx), n'.w.cell? ⟨wr.heap.size, 7, none⟩ = some (.slice iau u.2.2.2.2.1.2.2.length icu) := fun n' => cell_keep n'.h e7 (cell_lt e7)
   have e8k : ∀ n' : Cls (fun wx => Below wv.heap.size wv wx), n'.w.cell? ⟨wr.heap.size, 8, none⟩ = some (.slice jau u.2.2.2.2.2.length jcu) := fun n' => cell_keep n'.h e8 (cell_lt e8)
   clear p0 p1 p2 p3 p4 p5 p6 p7 p8 p9 p10 p11 p12 e0 e1 e2 e3 e4 e5 e6 e7 e8
   have HKc : Hid (∀ n' : Cls (fun wx => Below wv.heap.size wv wx), _) := fun n' => HKO.out n'.w (below_step B0.out.2 n'.h)
   have HPc : Hid (∀ n' : Cls (fun wx => Below wv.heap.size wv wx), _) := fun n' => HPC.out n'.w (below_step B0.out.2 n'.h)
   clear HKO HPC
   cases hb1 : coreB u
   ·rw [hb1] at HKc
    have HR : Hid (fabS x = false) := HNA.out (by unfold coreS; rw [hb1]; rfl)
    clear HNA
    refine region_class (fun wx => Below wv.heap.size wv wx) (by kernel_rfl) (by kernel_rfl) ((Below.refl _ wv).drew) ?_
    intro hne
    iterate 3 (quiet_step (first | (go_at_call 46; exact calls_class (HKc.out _) (fun w' hc bb => below_step hc bb)) | (go_at_call 47; exact calls_class (HPc.out _) (fun w' hc bb => below_step hc bb))))
    refine wpQuiet_step (fun K hK => ?_)
    go_simp
    refine hid_act K _ ?_
    intro A0 hA0
    refine hK A0 ?_
    clear hK K
    have ht0 : A0.tmps[82]? = some (.bool true) := by rw [hA0]; rfl
    refine wpQuiet_skip (b := false) (d := 82) ht0 rfl rfl rfl (by decide) ?_
    intro S0x0 eS0x0 hS0x0
    clear ht0
    refine wpQuiet_skip (b := false) (d := 82) hS0x0 rfl rfl rfl (by decide) ?_
    intro S0x1 eS0x1 hS0x1
    clear hS0x0
    refine wpQuiet_skip (b := false) (d := 82) hS0x1 rfl rfl rfl (by decide) ?_
    intro S0x2 eS0x2 hS0x2
    clear hS0x1
    refine wpQuiet_skip (b := false) (d := 82) hS0x2 rfl rfl rfl (by decide) ?_
    intro S0x3 eS0x3 hS0x3
    clear hS0x2
    refine wpQuiet_skip (b := false) (d := 82) hS0x3 rfl rfl rfl (by decide) ?_
    intro S0x4 eS0x4 hS0x4
    clear hS0x3
    refine wpQuiet_skip (b := false) (d := 82) hS0x4 rfl rfl rfl (by decide) ?_
    intro S0x5 eS0x5 hS0x5
    clear hS0x4
    refine wpQuiet_skip (b := false) (d := 82) hS0x5 rfl rfl rfl (by decide) ?_
    intro S0x6 eS0x6 hS0x6
    clear hS0x5
    refine wpQuiet_skip (b := false) (d := 82) hS0x6 rfl rfl rfl (by decide) ?_
    intro S0x7 eS0x7 hS0x7
    clear hS0x6
    clear hS0x7
    subst eS0x7 eS0x6 eS0x5 eS0x4 eS0x3 eS0x2 eS0x1 eS0x0
    subst hA0
    quiet_step (first | (go_at_call 46; exact calls_class (HKc.out _) (fun w' hc bb => below_step hc bb)) | (go_at_call 47; exact calls_class (HPc.out _) (fun w' hc bb => below_step hc bb)))
    refine wpQuiet_step (fun K hK => ?_)
    go_simp
    refine hid_act K _ ?_
    intro A1 hA1
    refine hK A1 ?_
    clear hK K
    have ht1 : A1.tmps[92]? = some (.bool true) := by rw [hA1]; rfl
    refine wpQuiet_skip (b := false) (d := 92) ht1 rfl rfl rfl (by decide) ?_
    intro S1x0 eS1x0 hS1x0
    clear ht1
    refine wpQuiet_skip (b := false) (d := 92) hS1x0 rfl rfl rfl (by decide) ?_
    intro S1x1 eS1x1 hS1x1
    clear hS1x0
    refine wpQuiet_skip (b := false) (d := 92) hS1x1 rfl rfl rfl (by decide) ?_
    intro S1x2 eS1x2 hS1x2
    clear hS1x1
    refine wpQuiet_skip (b := false) (d := 92) hS1x2 rfl rfl rfl (by decide) ?_
    intro S1x3 eS1x3 hS1x3
    clear hS1x2
    refine wpQuiet_skip (b := false) (d := 92) hS1x3 rfl rfl rfl (by decide) ?_
    intro S1x4 eS1x4 hS1x4
    clear hS1x3
    refine wpQuiet_skip (b := false) (d := 92) hS1x4 rfl rfl rfl (by decide) ?_
    intro S1x5 eS1x5 hS1x5
    clear hS1x4
    refine wpQuiet_skip (b := false) (d := 92) hS1x5 rfl rfl rfl (by decide) ?_
    intro S1x6 eS1x6 hS1x6
    clear hS1x5
    refine wpQuiet_skip (b := false) (d := 92) hS1x6 rfl rfl rfl (by decide) ?_
    intro S1x7 eS1x7 hS1x7
    clear hS1x6
    refine wpQuiet_skip (b := false) (d := 92) hS1x7 rfl rfl rfl (by decide) ?_
    intro S1x8 eS1x8 hS1x8
    clear hS1x7
    refine wpQuiet_skip (b := false) (d := 92) hS1x8 rfl rfl rfl (by decide) ?_
    intro S1x9 eS1x9 hS1x9
    clear hS1x8
    clear hS1x9
    subst eS1x9 eS1x8 eS1x7 eS1x6 eS1x5 eS1x4 eS1x3 eS1x2 eS1x1 eS1x0
    subst hA1
    quiet_step (first | (go_at_call 46; exact calls_class (HKc.out _) (fun w' hc bb => below_step hc bb)) | (go_at_call 47; exact calls_class (HPc.out _) (fun w' hc bb => below_step hc bb)))
    refine wpQuiet_step (fun K hK => ?_)
    go_simp
    refine hid_act K _ ?_
    intro A2 hA2
    refine hK A2 ?_
    clear hK K
    have ht2 : A2.tmps[104]? = some (.bool true) := by rw [hA2]; rfl
    refine wpQuiet_skip (b := false) (d := 104) ht2 rfl rfl rfl (by decide) ?_
    intro S2x0 eS2x0 hS2x0
    clear ht2
    refine wpQuiet_skip (b := false) (d := 104) hS2x0 rfl rfl rfl (by decide) ?_
    intro S2x1 eS2x1 hS2x1
    clear hS2x0
    refine wpQuiet_skip (b := false) (d := 104) hS2x1 rfl rfl rfl (by decide) ?_
    intro S2x2 eS2x2 hS2x2
    clear hS2x1
    refine wpQuiet_skip (b := false) (d := 104) hS2x2 rfl rfl rfl (by decide) ?_
    intro S2x3 eS2x3 hS2x3
    clear hS2x2
    refine wpQuiet_skip (b := false) (d := 104) hS2x3 rfl rfl rfl (by decide) ?_
    intro S2x4 eS2x4 hS2x4
    clear hS2x3
    refine wpQuiet_skip (b := false) (d := 104) hS2x4 rfl rfl rfl (by decide) ?_
    intro S2x5 eS2x5 hS2x5
    clear hS2x4
    clear hS2x5
    subst eS2x5 eS2x4 eS2x3 eS2x2 eS2x1 eS2x0
    subst hA2
    quiet_step (first | (go_at_call 46; exact calls_class (HKc.out _) (fun w' hc bb => below_step hc bb)) | (go_at_call 47; exact calls_class (HPc.out _) (fun w' hc bb => below_step hc bb)))
    refine wpQuiet_nil ?_
    intro W4 bq
    clear hne p0k p1k p2k p3k e0k e1k e2k e3k e4k e5k e6k e7k e8k HKc HPc
    replace BB := below_step BB bq
    replace XX := row_keep bq XX
    clear bq E B0
    clear XX
    go_wp2
    exact HRT.out _ HR.out BB
   ·rw [hb1] at HKc
    obtain ⟨w1, w2, w3⟩ := ok_ways (core_ok hb1)
    obtain ⟨row0, hr0⟩ : ∃ row0, u.1.1[0]? = some row0 := ⟨_, List.getElem?_eq_getElem (by omega)⟩
    obtain ⟨sb, so, sa, sc, se, sc0, -, -, -⟩ := set_at HSK.out hr0
    have hw0 : row0.length = waysN u.1 := w3 _ (List.mem_of_getElem? hr0)
    rw [hw0] at sc0
    subst se
    have hul : u.1.1.length ≤ 4 := by omega
    have hup : 0 < u.1.1.length := by omega
    have huw : waysN u.1 ≤ 4 := by omega
    have s0k : ∀ n' : Cls (fun wx => Below wv.heap.size wv wx), n'.w.cell? ⟨sb, so, none⟩ = some (.slice sa (waysN u.1) sc) := fun n' => by rw [show (so : Nat) = so + 0 from rfl]; exact cell_keep (below_step B0.out.2 n'.h) sc0 (cell_lt sc0)
    clear w1 w2 w3 hr0 hw0 sc0 HSK
    by_cases hs : (u.1.1.length : Int) = x.1.2.1
    ·have zs : ((u.1.1.length : Int) != x.1.2.1) = false := by simp [hs]
     have HS : Hid ((u.1.1.length : Int) = x.1.2.1) := hs
     clear hs
     by_cases hy : (waysN u.1 : Int) = x.1.2.2.1
     ·have zy : ((waysN u.1 : Int) != x.1.2.2.1) = false := by simp [hy]
      have HY : Hid ((waysN u.1 : Int) = x.1.2.2.1) := hy
      clear hy
      obtain ⟨kp, hkp⟩ : ∃ kp, kp = progI x.1.1 x.1.2.1 x.1.2.2.1 x.1.2.2.2 u.2.1 := ⟨_, rfl⟩
      rw [← hkp] at HPc
      have EK : Hid (progI x.1.1 x.1.2.1 x.1.2.2.1 x.1.2.2.2 u.2.1 = kp) := hkp.symm
      clear hkp
      by_cases hz : kp = 0
      ·have zk : (kp != 0) = false := by simp [hz]
       have HZ : Hid (kp = 0) := hz
       clear hz HNA
       have HP : Hid (coreS x.1.1 x.1.2.1 x.1.2.2.1 x.1.2.2.2 u = true) := by unfold Hid coreS; rw [hb1, HS.out, HY.out, EK.out, HZ.out]; simp
       refine region_class (fun wx => Below wv.heap.size wv wx) (by kernel_rfl) (by kernel_rfl) ((Below.refl _ wv).drew) ?_
       intro hne
       iterate 33 (quiet_step (first | (go_at_call 46; exact calls_class (HKc.out _) (fun w' hc bb => below_step hc bb)) | (go_at_call 47; exact calls_class (HPc.out _) (fun w' hc bb => below_step hc bb))))
       refine wpQuiet_nil ?_
       intro W4 bq
       clear hne p0k p1k p2k p3k e0k e1k e2k e3k e4k e5k e6k e7k e8k s0k HKc HPc
       replace BB := below_step BB bq
       replace XX := row_keep bq XX
       clear bq E B0
       have HE9 : Hid (∀ j, j < k + 1 → ∀ v, x.2.2.1[j]? = some v → coreS x.1.1 x.1.2.1 x.1.2.2.1 x.1.2.2.2 v = true) := fun j hj v hv => by
        by_cases he : j < k
        ·exact hno j he v hv
        ·have : j = k := by omega
         subst this
         rw [HX.out] at hv
         cases hv
         exact HP.out
       go_wp2
       go_roundw
       case rel =>
        first
         | exact ⟨⟨k + 1, by omega, by go_num, HE9.out, BB, XX⟩⟩
         | (repeat (apply Exists.intro)
            refine ⟨?_, rfl⟩
            exact ⟨⟨k + 1, by omega, by go_num, HE9.out, BB, XX⟩⟩)
       case measure => simp [intOf]; omega
      ·have zk : (kp != 0) = true := by simp [hz]
       have HZ : Hid (¬ kp = 0) := hz
       clear hz
       have HR : Hid (fabS x = false) := HNA.out (by unfold coreS; rw [hb1, EK.out]; simp [HZ.out])
       clear HNA
       refine region_class (fun wx => Below wv.heap.size wv wx) (by kernel_rfl) (by kernel_rfl) ((Below.refl _ wv).drew) ?_
       intro hne
       iterate 33 (quiet_step (first | (go_at_call 46; exact calls_class (HKc.out _) (fun w' hc bb => below_step hc bb)) | (go_at_call 47; exact calls_class (HPc.out _) (fun w' hc bb => below_step hc bb))))
       refine wpQuiet_nil ?_
       intro W4 bq
       clear hne p0k p1k p2k p3k e0k e1k e2k e3k e4k e5k e6k e7k e8k s0k HKc HPc
       replace BB := below_step BB bq
       replace XX := row_keep bq XX
       clear bq E B0
       clear XX
       go_wp2
       exact HRT.out _ HR.out BB
     ·have zy : ((waysN u.1 : Int) != x.1.2.2.1) = true := by simp [hy]
      have HY : Hid (¬ (waysN u.1 : Int) = x.1.2.2.1) := hy
      clear hy
      have HR : Hid (fabS x = false) := HNA.out (by unfold coreS; simp [HY.out])
      clear HNA
      refine region_class (fun wx => Below wv.heap.size wv wx) (by kernel_rfl) (by kernel_rfl) ((Below.refl _ wv).drew) ?_
      intro hne
      iterate 25 (quiet_step (first | (go_at_call 46; exact calls_class (HKc.out _) (fun w' hc bb => below_step hc bb)) | (go_at_call 47; exact calls_class (HPc.out _) (fun w' hc bb => below_step hc bb))))
      refine wpQuiet_step (fun K hK => ?_)
      go_simp
      refine hid_act K _ ?_
      intro A2 hA2
      refine hK A2 ?_
      clear hK K
      have ht2 : A2.tmps[104]? = some (.bool true) := by rw [hA2]; rfl
      refine wpQuiet_skip (b := false) (d := 104) ht2 rfl rfl rfl (by decide) ?_
      intro S2x0 eS2x0 hS2x0
      clear ht2
      refine wpQuiet_skip (b := false) (d := 104) hS2x0 rfl rfl rfl (by decide) ?_
      intro S2x1 eS2x1 hS2x1
      clear hS2x0
      refine wpQuiet_skip (b := false) (d := 104) hS2x1 rfl rfl rfl (by decide) ?_
      intro S2x2 eS2x2 hS2x2
      clear hS2x1
      refine wpQuiet_skip (b := false) (d := 104) hS2x2 rfl rfl rfl (by decide) ?_
      intro S2x3 eS2x3 hS2x3
      clear hS2x2
      refine wpQuiet_skip (b := false) (d := 104) hS2x3 rfl rfl rfl (by decide) ?_
      intro S2x4 eS2x4 hS2x4
      clear hS2x3
      refine wpQuiet_skip (b := false) (d := 104) hS2x4 rfl rfl rfl (by decide) ?_
      intro S2x5 eS2x5 hS2x5
      clear hS2x4
      clear hS2x5
      subst eS2x5 eS2x4 eS2x3 eS2x2 eS2x1 eS2x0
      subst hA2
      quiet_step (first | (go_at_call 46; exact calls_class (HKc.out _) (fun w' hc bb => below_step hc bb)) | (go_at_call 47; exact calls_class (HPc.out _) (fun w' hc bb => below_step hc bb)))
      refine wpQuiet_nil ?_
      intro W4 bq
      clear hne p0k p1k p2k p3k e0k e1k e2k e3k e4k e5k e6k e7k e8k s0k HKc HPc
      replace BB := below_step BB bq
      replace XX := row_keep bq XX
      clear bq E B0
      clear XX
      go_wp2
      exact HRT.out _ HR.out BB
    ·have zs : ((u.1.1.length : Int) != x.1.2.1) = true := by simp [hs]
     have HS : Hid (¬ (u.1.1.length : Int) = x.1.2.1) := hs
     clear hs
     have HR : Hid (fabS x = false) := HNA.out (by unfold coreS; simp [HS.out])
     clear HNA
     refine region_class (fun wx => Below wv.heap.size wv wx) (by kernel_rfl) (by kernel_rfl) ((Below.refl _ wv).drew) ?_
     intro hne
     iterate 13 (quiet_step (first | (go_at_call 46; exact calls_class (HKc.out _) (fun w' hc bb => below_step hc bb)) | (go_at_call 47; exact calls_class (HPc.out _) (fun w' hc bb => below_step hc bb))))
     refine wpQuiet_step (fun K hK => ?_)
     go_simp
     refine hid_act K _ ?_
     intro A1 hA1
     refine hK A1 ?_
     clear hK K
     have ht1 : A1.tmps[92]? = some (.bool true) := by rw [hA1]; rfl
     refine wpQuiet_skip (b := false) (d := 92) ht1 rfl rfl rfl (by decide) ?_
     intro S1x0 eS1x0 hS1x0
     clear ht1
     refine wpQuiet_skip (b := false) (d := 92) hS1x0 rfl rfl rfl (by decide) ?_
     intro S1x1 eS1x1 hS1x1
     clear hS1x0
     refine wpQuiet_skip (b := false) (d := 92) hS1x1 rfl rfl rfl (by decide) ?_
     intro S1x2 eS1x2 hS1x2
     clear hS1x1
     refine wpQuiet_skip (b := false) (d := 92) hS1x2 rfl rfl rfl (by decide) ?_
     intro S1x3 eS1x3 hS1x3
     clear hS1x2
     refine wpQuiet_skip (b := false) (d := 92) hS1x3 rfl rfl rfl (by decide) ?_
     intro S1x4 eS1x4 hS1x4
     clear hS1x3
     refine wpQuiet_skip (b := false) (d := 92) hS1x4 rfl rfl rfl (by decide) ?_
     intro S1x5 eS1x5 hS1x5
     clear hS1x4
     refine wpQuiet_skip (b := false) (d := 92) hS1x5 rfl rfl rfl (by decide) ?_
     intro S1x6 eS1x6 hS1x6
     clear hS1x5
     refine wpQuiet_skip (b := false) (d := 92) hS1x6 rfl rfl rfl (by decide) ?_
     intro S1x7 eS1x7 hS1x7
     clear hS1x6
     refine wpQuiet_skip (b := false) (d := 92) hS1x7 rfl rfl rfl (by decide) ?_
     intro S1x8 eS1x8 hS1x8
     clear hS1x7
     refine wpQuiet_skip (b := false) (d := 92) hS1x8 rfl rfl rfl (by decide) ?_
     intro S1x9 eS1x9 hS1x9
     clear hS1x8
     clear hS1x9
     subst eS1x9 eS1x8 eS1x7 eS1x6 eS1x5 eS1x4 eS1x3 eS1x2 eS1x1 eS1x0
     subst hA1
     quiet_step (first | (go_at_call 46; exact calls_class (HKc.out _) (fun w' hc bb => below_step hc bb)) | (go_at_call 47; exact calls_class (HPc.out _) (fun w' hc bb => below_step hc bb)))
     refine wpQuiet_step (fun K hK => ?_)
     go_simp
     refine hid_act K _ ?_
     intro A2 hA2
     refine hK A2 ?_
     clear hK K
     have ht2 : A2.tmps[104]? = some (.bool true) := by rw [hA2]; rfl
     refine wpQuiet_skip (b := false) (d := 104) ht2 rfl rfl rfl (by decide) ?_
     intro S2x0 eS2x0 hS2x0
     clear ht2
     refine wpQuiet_skip (b := false) (d := 104) hS2x0 rfl rfl rfl (by decide) ?_
     intro S2x1 eS2x1 hS2x1
     clear hS2x0
     refine wpQuiet_skip (b := false) (d := 104) hS2x1 rfl rfl rfl (by decide) ?_
     intro S2x2 eS2x2 hS2x2
     clear hS2x1
     refine wpQuiet_skip (b := false) (d := 104) hS2x2 rfl rfl rfl (by decide) ?_
     intro S2x3 eS2x3 hS2x3
     clear hS2x2
     refine wpQuiet_skip (b := false) (d := 104) hS2x3 rfl rfl rfl (by decide) ?_
     intro S2x4 eS2x4 hS2x4
     clear hS2x3
     refine wpQuiet_skip (b := false) (d := 104) hS2x4 rfl rfl rfl (by decide) ?_
     intro S2x5 eS2x5 hS2x5
     clear hS2x4
     clear hS2x5
     subst eS2x5 eS2x4 eS2x3 eS2x2 eS2x1 eS2x0
     subst hA2
     quiet_step (first | (go_at_call 46; exact calls_class (HKc.out _) (fun w' hc bb => below_step hc bb)) | (go_at_call 47; exact calls_class (HPc.out _) (fun w' hc bb => below_step hc bb)))
     refine wpQuiet_nil ?_
     intro W4 bq
     clear hne p0k p1k p2k p3k e0k e1k e2k e3k e4k e5k e6k e7k e8k s0k HKc HPc
     replace BB := below_step BB bq
     replace XX := row_keep bq XX
     clear bq E B0
     clear XX
     go_wp2
     exact HRT.out _ HR.out BB
  ·have HA : Hid (x.2.2.1.all (coreS x.1.1 x.1.2.1 x.1.2.2.1 x.1.2.2.2) = true) := all_upto fun j v hv => hno j (by have := (List.getElem?_eq_some_iff.1 hv).1; omega) v hv
   have hge : ¬ ((k : Int) < (x.2.2.1.length : Int)) := by omega
   clear hno hkk hlt
   obtain ⟨p0, p1, p2, p3, p4, p5, p6, p7, p8, p9, p10, p11, p12⟩ := cells_fabric XX
   go_wp2
   exact HEX.out _ HA.out BB XX
end Go.Proofs.YtiiipclglngdhaaGreatDoor
