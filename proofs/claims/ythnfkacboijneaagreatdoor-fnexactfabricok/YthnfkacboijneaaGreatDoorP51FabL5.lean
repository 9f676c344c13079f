import Derived.Test.YthnfkacboijneaaGreatDoorP46FabI
import Derived.Test.YthnfkacboijneaaGreatDoorP44FabDefs
namespace Go.Proofs.YthnfkacboijneaaGreatDoor
open Go.ChangeShapes Go.WideShapes Go.ChangeAt Go.RowKit
set_option linter.unusedVariables false
set_option linter.unusedSimpArgs false
set_option maxHeartbeats 8000000 in
set_option maxRecDepth 100000 in
theorem fabLoop5 {Q0 : Exit → Act → World → Prop} {tc0 tc2 tc3 tc4 tc5 tc6 tc7 tc8 tc9 tc11 tc12 tc13 tc14 tc15 tc16 tc17 tc18 tc19 tc20 tc21 tc22 tc23 tc24 tc25 tc26 tc27 tc28 tc29 tc30 tc31 tc32 tc33 tc34 tc35 tc36 tc37 tc38 tc39 tc40 tc41 tc42 tc43 tc44 tc45 tc46 tc47 tc48 tc49 tc50 tc51 tc52 tc53 tc54 tc55 tc56 tc57 tc58 tc59 tc60 tc61 tc62 tc63 tc64 tc65 tc66 tc67 tc68 tc69 tc70 tc71 tc72 tc73 tc74 tc75 tc76 tc77 tc78 tc79 tc80 tc81 tc82 tc83 tc84 tc85 tc86 tc87 tc88 tc89 tc90 tc91 tc92 tc93 tc94 tc95 tc96 tc97 tc98 tc99 tc100 tc101 tc102 tc103 tc104 tc105 tc106 tc107 tc108 tc109 tc110 tc111 tc112 tc113 tc114 tc115 tc116 tc117 tc118 tc119 tc120 tc121 tc122 tc123 tc124 tc125 tc126 tc127 tc128 tc129 tc130 tc131 tc132 tc133 tc134 tc135 tc136 tc137 tc138 tc139 tc140 tc141 tc142 tc143 tc144 tc145 tc146 tc147 tc148 tc149 tc150 tc151 tc152 tc153 tc154 tc155 tc156 tc157 tc158 tc159 tc160 tc161 tc162 tc163 tc164 tc165 tc166 tc167 tc168 tc169 tc170 tc171 tc172 tc173 tc174 tc175 tc176 tc177 tc178 tc179 tc180 tc181 tc182 tc183 tc184 tc185 tc186 tc187 tc188 tc189 tc190 tc191 tc192 tc193 tc194 tc195 tc196 tc197 tc198 tc199 tc200 tc201 tc202 tc203 tc204 tc205 tc206 tc207 tc208 tc209 tc210 tc211 tc212 tc213 tc214 tc215 tc216 tc217 tc218 tc219 tc220 tc221 tc222 tc223 tc224 tc225 tc226 tc227 tc228 tc229 : Value} (x : FabricD) (a1 : Option Addr) (c1 : Nat) (b1 : Option Addr) (d1 : Nat) (a2 : Option Addr) (c2 : Nat) (a3 : Option Addr) (c3 : Nat) (b3 : Option Addr) (d3 : Nat) (a4 : Option Addr) (c4 : Nat) (a5 : Option Addr) (c5 : Nat) (w W1 : World) (RR : Hid (∀ W, Below w.heap.size w W → FabRd W x a1 c1 b1 d1 a2 c2 a3 c3 b3 d3 a4 c4 a5 c5)) (HH : Hid (headF x = true)) (B : Below w.heap.size w W1) (F : W1.heap[w.heap.size]? = some (.cells #[.int .i64 x.1.1, .int .i64 x.1.2.1, .int .i64 x.1.2.2.1, .int .i64 x.1.2.2.2, .slice a1 x.2.1.1.length c1, .slice b1 x.2.1.2.length d1, .slice a2 x.2.2.1.length c2, .slice a3 x.2.2.2.1.1.length c3, .int .i64 x.2.2.2.1.2.1, .bool x.2.2.2.1.2.2.1, .slice b3 x.2.2.2.1.2.2.2.length d3, .slice a4 x.2.2.2.2.1.length c4, .slice a5 x.2.2.2.2.2.length c5] 49 (0, 0)))
    (HEX : Hid (∀ {td0 td2 td3 td4 td5 td6 td7 td8 td9 td10 td11 td12 td13 td14 td15 td16 td17 td18 td19 td20 td21 td22 td23 td24 td25 td26 td27 td28 td29 td30 td31 td32 td33 td34 td35 td36 td37 td38 td39 td40 td41 td42 td43 td44 td45 td46 td47 td48 td49 td50 td51 td52 td53 td54 td55 td56 td57 td58 td59 td60 td61 td62 td63 td64 td65 td66 td67 td68 td69 td70 td71 td72 td73 td74 td75 td76 td77 td78 td79 td80 td81 td82 td83 td84 td85 td86 td87 td88 td89 td90 td91 td92 td93 td94 td95 td96 td97 td98 td99 td100 td101 td102 td103 td104 td105 td106 td107 td108 td109 td110 td111 td112 td113 td114 td115 td116 td117 td118 td119 td120 td121 td122 td123 td124 td125 td126 td127 td128 td129 td130 td131 td132 td133 td134 td135 td136 td137 td138 td139 td140 td141 td142 td143 td144 td145 td146 td147 td148 td149 td150 td151 td152 td153 td154 td155 td156 td157 td158 td159 td160 td161 td162 td163 td164 td165 td166 td167 td168 td169 td170 td171 td172 td173 td174 td175 td176 td177 td178 td179 td180 td181 td182 td183 td184 td185 td186 td187 td188 td189 td190 td191 td192 td193 td194 td195 td196 td197 td198 td199 td200 td201 td202 td203 td204 td205 td206 td207 td208 td209 td210 td211 td212 td213 td214 td215 td216 td217 td218 td219 td220 td221 td222 td223 td224 td225 td226 td227 td228 td229 : Value} (V : World), x.2.2.2.2.2.all (evB) = true → Below w.heap.size w V → V.heap[w.heap.size]? = some (.cells #[.int .i64 x.1.1, .int .i64 x.1.2.1, .int .i64 x.1.2.2.1, .int .i64 x.1.2.2.2, .slice a1 x.2.1.1.length c1, .slice b1 x.2.1.2.length d1, .slice a2 x.2.2.1.length c2, .slice a3 x.2.2.2.1.1.length c3, .int .i64 x.2.2.2.1.2.1, .bool x.2.2.2.1.2.2.1, .slice b3 x.2.2.2.1.2.2.2.length d3, .slice a4 x.2.2.2.2.1.length c4, .slice a5 x.2.2.2.2.2.length c5] 49 (0, 0)) → Q0 (.exit 8) ⟨List.toArray (td0 :: .pointer (some ⟨w.heap.size, 0, none⟩) :: td2 :: td3 :: td4 :: td5 :: td6 :: td7 :: td8 :: td9 :: td10 :: td11 :: td12 :: td13 :: td14 :: td15 :: td16 :: td17 :: td18 :: td19 :: td20 :: td21 :: td22 :: td23 :: td24 :: td25 :: td26 :: td27 :: td28 :: td29 :: td30 :: td31 :: td32 :: td33 :: td34 :: td35 :: td36 :: td37 :: td38 :: td39 :: td40 :: td41 :: td42 :: td43 :: td44 :: td45 :: td46 :: td47 :: td48 :: td49 :: td50 :: td51 :: td52 :: td53 :: td54 :: td55 :: td56 :: td57 :: td58 :: td59 :: td60 :: td61 :: td62 :: td63 :: td64 :: td65 :: td66 :: td67 :: td68 :: td69 :: td70 :: td71 :: td72 :: td73 :: td74 :: td75 :: td76 :: td77 :: td78 :: td79 :: td80 :: td81 :: td82 :: td83 :: td84 :: td85 :: td86 :: td87 :: td88 :: td89 :: td90 :: td91 :: td92 :: td93 :: td94 :: td95 :: td96 :: td97 :: td98 :: td99 :: td100 :: td101 :: td102 :: td103 :: td104 :: td105 :: td106 :: td107 :: td108 :: td109 :: td110 :: td111 :: td112 :: td113 :: td114 :: td115 :: td116 :: td117 :: td118 :: td119 :: td120 :: td121 :: td122 :: td123 :: td124 :: td125 :: td126 :: td127 :: td128 :: td129 :: td130 :: td131 :: td132 :: td133 :: td134 :: td135 :: td136 :: td137 :: td138 :: td139 :: td140 :: td141 :: td142 :: td143 :: td144 :: td145 :: td146 :: td147 :: td148 :: td149 :: td150 :: td151 :: td152 :: td153 :: td154 :: td155 :: td156 :: td157 :: td158 :: td159 :: td160 :: td161 :: td162 :: td163 :: td164 :: td165 :: td166 :: td167 :: td168 :: td169 :: td170 :: td171 :: td172 :: td173 :: td174 :: td175 :: td176 :: td177 :: td178 :: td179 :: td180 :: td181 :: td182 :: td183 :: td184 :: td185 :: td186 :: td187 :: td188 :: td189 :: td190 :: td191 :: td192 :: td193 :: td194 :: td195 :: td196 :: td197 :: td198 :: td199 :: td200 :: td201 :: td202 :: td203 :: td204 :: td205 :: td206 :: td207 :: td208 :: td209 :: td210 :: td211 :: td212 :: td213 :: td214 :: td215 :: td216 :: td217 :: td218 :: td219 :: td220 :: td221 :: td222 :: td223 :: td224 :: td225 :: td226 :: td227 :: td228 :: td229 :: []), []⟩ V))
    (HRT : Hid (∀ {td0 td3 td4 td5 td6 td7 td8 td9 td10 td11 td12 td13 td14 td15 td16 td17 td18 td19 td20 td21 td22 td23 td24 td25 td26 td27 td28 td29 td30 td31 td32 td33 td34 td35 td36 td37 td38 td39 td40 td41 td42 td43 td44 td45 td46 td47 td48 td49 td50 td51 td52 td53 td54 td55 td56 td57 td58 td59 td60 td61 td62 td63 td64 td65 td66 td67 td68 td69 td70 td71 td72 td73 td74 td75 td76 td77 td78 td79 td80 td81 td82 td83 td84 td85 td86 td87 td88 td89 td90 td91 td92 td93 td94 td95 td96 td97 td98 td99 td100 td101 td102 td103 td104 td105 td106 td107 td108 td109 td110 td111 td112 td113 td114 td115 td116 td117 td118 td119 td120 td121 td122 td123 td124 td125 td126 td127 td128 td129 td130 td131 td132 td133 td134 td135 td136 td137 td138 td139 td140 td141 td142 td143 td144 td145 td146 td147 td148 td149 td150 td151 td152 td153 td154 td155 td156 td157 td158 td159 td160 td161 td162 td163 td164 td165 td166 td167 td168 td169 td170 td171 td172 td173 td174 td175 td176 td177 td178 td179 td180 td181 td182 td183 td184 td185 td186 td187 td188 td189 td190 td191 td192 td193 td194 td195 td196 td197 td198 td199 td200 td201 td202 td203 td204 td205 td206 td207 td208 td209 td210 td211 td212 td213 td214 td215 td216 td217 td218 td219 td220 td221 td222 td223 td224 td225 td226 td227 td228 td229 : Value} (V : World), fabS x = false → Below w.heap.size w V → Q0 .ret ⟨List.toArray (td0 :: .pointer (some ⟨w.heap.size, 0, none⟩) :: .bool false :: td3 :: td4 :: td5 :: td6 :: td7 :: td8 :: td9 :: td10 :: td11 :: td12 :: td13 :: td14 :: td15 :: td16 :: td17 :: td18 :: td19 :: td20 :: td21 :: td22 :: td23 :: td24 :: td25 :: td26 :: td27 :: td28 :: td29 :: td30 :: td31 :: td32 :: td33 :: td34 :: td35 :: td36 :: td37 :: td38 :: td39 :: td40 :: td41 :: td42 :: td43 :: td44 :: td45 :: td46 :: td47 :: td48 :: td49 :: td50 :: td51 :: td52 :: td53 :: td54 :: td55 :: td56 :: td57 :: td58 :: td59 :: td60 :: td61 :: td62 :: td63 :: td64 :: td65 :: td66 :: td67 :: td68 :: td69 :: td70 :: td71 :: td72 :: td73 :: td74 :: td75 :: td76 :: td77 :: td78 :: td79 :: td80 :: td81 :: td82 :: td83 :: td84 :: td85 :: td86 :: td87 :: td88 :: td89 :: td90 :: td91 :: td92 :: td93 :: td94 :: td95 :: td96 :: td97 :: td98 :: td99 :: td100 :: td101 :: td102 :: td103 :: td104 :: td105 :: td106 :: td107 :: td108 :: td109 :: td110 :: td111 :: td112 :: td113 :: td114 :: td115 :: td116 :: td117 :: td118 :: td119 :: td120 :: td121 :: td122 :: td123 :: td124 :: td125 :: td126 :: td127 :: td128 :: td129 :: td130 :: td131 :: td132 :: td133 :: td134 :: td135 :: td136 :: td137 :: td138 :: td139 :: td140 :: td141 :: td142 :: td143 :: td144 :: td145 :: td146 :: td147 :: td148 :: td149 :: td150 :: td151 :: td152 :: td153 :: td154 :: td155 :: td156 :: td157 :: td158 :: td159 :: td160 :: td161 :: td162 :: td163 :: td164 :: td165 :: td166 :: td167 :: td168 :: td169 :: td170 :: td171 :: td172 :: td173 :: td174 :: td175 :: td176 :: td177 :: td178 :: td179 :: td180 :: td181 :: td182 :: td183 :: td184 :: td185 :: td186 :: td187 :: td188 :: td189 :: td190 :: td191 :: td192 :: td193 :: td194 :: td195 :: td196 :: td197 :: td198 :: td199 :: td200 :: td201 :: td202 :: td203 :: td204 :: td205 :: td206 :: td207 :: td208 :: td209 :: td210 :: td211 :: td212 :: td213 :: td214 :: td215 :: td216 :: td217 :: td218 :: td219 :: td220 :: td221 :: td222 :: td223 :: td224 :: td225 :: td226 :: td227 :: td228 :: td229 :: []), []⟩ V)) :
    Code.wp Tryz.prog (Code.loop (fabCode 4)) Q0 ⟨List.toArray (tc0 :: .pointer (some ⟨w.heap.size, 0, none⟩) :: tc2 :: tc3 :: tc4 :: tc5 :: tc6 :: tc7 :: tc8 :: tc9 :: .int .i64 0 :: tc11 :: tc12 :: tc13 :: tc14 :: tc15 :: tc16 :: tc17 :: tc18 :: tc19 :: tc20 :: tc21 :: tc22 :: tc23 :: tc24 :: tc25 :: tc26 :: tc27 :: tc28 :: tc29 :: tc30 :: tc31 :: tc32 :: tc33 :: tc34 :: tc35 :: tc36 :: tc37 :: tc38 :: tc39 :: tc40 :: tc41 :: tc42 :: tc43 :: tc44 :: tc45 :: tc46 :: tc47 :: tc48 :: tc49 :: tc50 :: tc51 :: tc52 :: tc53 :: tc54 :: tc55 :: tc56 :: tc57 :: tc58 :: tc59 :: tc60 :: tc61 :: tc62 :: tc63 :: tc64 :: tc65 :: tc66 :: tc67 :: tc68 :: tc69 :: tc70 :: tc71 :: tc72 :: tc73 :: tc74 :: tc75 :: tc76 :: tc77 :: tc78 :: tc79 :: tc80 :: tc81 :: tc82 :: tc83 :: tc84 :: tc85 :: tc86 :: tc87 :: tc88 :: tc89 :: tc90 :: tc91 :: tc92 :: tc93 :: tc94 :: tc95 :: tc96 :: tc97 :: tc98 :: tc99 :: tc100 :: tc101 :: tc102 :: tc103 :: tc104 :: tc105 :: tc106 :: tc107 :: tc108 :: tc109 :: tc110 :: tc111 :: tc112 :: tc113 :: tc114 :: tc115 :: tc116 :: tc117 :: tc118 :: tc119 :: tc120 :: tc121 :: tc122 :: tc123 :: tc124 :: tc125 :: tc126 :: tc127 :: tc128 :: tc129 :: tc130 :: tc131 :: tc132 :: tc133 :: tc134 :: tc135 :: tc136 :: tc137 :: tc138 :: tc139 :: tc140 :: tc141 :: tc142 :: tc143 :: tc144 :: tc145 :: tc146 :: tc147 :: tc148 :: tc149 :: tc150 :: tc151 :: tc152 :: tc153 :: tc154 :: tc155 :: tc156 :: tc157 :: tc158 :: tc159 :: tc160 :: tc161 :: tc162 :: tc163 :: tc164 :: tc165 :: tc166 :: tc167 :: tc168 :: tc169 :: tc170 :: tc171 :: tc172 :: tc173 :: tc174 :: tc175 :: tc176 :: tc177 :: tc178 :: tc179 :: tc180 :: tc181 :: tc182 :: tc183 :: tc184 :: tc185 :: tc186 :: tc187 :: tc188 :: tc189 :: tc190 :: tc191 :: tc192 :: tc193 :: tc194 :: tc195 :: tc196 :: tc197 :: tc198 :: tc199 :: tc200 :: tc201 :: tc202 :: tc203 :: tc204 :: tc205 :: tc206 :: tc207 :: tc208 :: tc209 :: tc210 :: tc211 :: tc212 :: tc213 :: tc214 :: tc215 :: tc216 :: tc217 :: tc218 :: tc219 :: tc220 :: tc221 :: tc222 :: tc223 :: tc224 :: tc225 :: tc226 :: tc227 :: tc228 :: tc229 :: []), []⟩ W1 := by
 have l1 : x.2.1.2.length ≤ 9223372036854775807 := (RR.out _ B).bookl
 have l2 : x.2.2.1.length ≤ 9223372036854775807 := (RR.out _ B).coresl
 have l3 : x.2.2.2.2.1.length ≤ 9223372036854775807 := (RR.out _ B).netl
 have l4 : x.2.2.2.2.2.length ≤ 9223372036854775807 := (RR.out _ B).evsl
 conv => arg 2; arg 1; whnf
 go_loopw [10] (fun i wr => UptoF w x a1 b1 a2 a3 b3 a4 a5 c1 d1 c2 c3 d3 c4 c5 x.2.2.2.2.2.length (fun j => ∀ v, x.2.2.2.2.2[j]? = some v → evB v = true) i wr) (fun i _ => x.2.2.2.2.2.length - (intOf i).toNat)
 case atStart => exact ⟨⟨0, Nat.zero_le _, rfl, fun j hj => by omega, B, F⟩⟩
 clear B F
 case round =>
  obtain ⟨k, hkk, rfl, hno, BB, XX⟩ := hrel.ex
  clear hrel
  by_cases hlt : k < x.2.2.2.2.2.length
  ·have hlt' : (k : Int) < (x.2.2.2.2.2.length : Int) := by omega
   obtain ⟨u, hx⟩ : ∃ u, x.2.2.2.2.2[k]? = some u := ⟨_, List.getElem?_eq_getElem hlt⟩
   have R := RR.out _ BB
   obtain ⟨bb, off, cs, ra, hrdx, hcell⟩ := slrd_at R.evs hx
   obtain ⟨ea, ec, rfl, en1, en2, eq⟩ := event_shape1 hrdx
   have x0 := hcell 0 _ rfl
   rw [show off + (k * eventR.size + 0) = off + k * 9 from rfl] at x0
   have x1 := hcell 1 _ rfl
   rw [show off + (k * eventR.size + 1) = off + k * 9 + 1 from rfl] at x1
   have x2 := hcell 2 _ rfl
   rw [show off + (k * eventR.size + 2) = off + k * 9 + 2 from rfl] at x2
   have x3 := hcell 3 _ rfl
   rw [show off + (k * eventR.size + 3) = off + k * 9 + 3 from rfl] at x3
   have x4 := hcell 4 _ rfl
   rw [show off + (k * eventR.size + 4) = off + k * 9 + 4 from rfl] at x4
   have x5 := hcell 5 _ rfl
   rw [show off + (k * eventR.size + 5) = off + k * 9 + 5 from rfl] at x5
   have x6 := hcell 6 _ rfl
   rw [show off + (k * eventR.size + 6) = off + k * 9 + 6 from rfl] at x6
   have x7 := hcell 7 _ rfl
   rw [show off + (k * eventR.size + 7) = off + k * 9 + 7 from rfl] at x7
   have x8 := hcell 8 _ rfl
   rw [show off + (k * eventR.size + 8) = off + k * 9 + 8 from rfl] at x8
   have HX : Hid (x.2.2.2.2.2[k]? = some u) := hx
   subst ra
   have HNA : Hid (evB u = false → fabS x = false) := fun q => by have := all_not HX.out q; unfold fabS; rw [this]; simp
   have HEV := l15Event_any u ea ec wr eq (Nat.le_trans en1 en2)
   clear hx hcell hrdx R eq en1 en2
   obtain ⟨p0, p1, p2, p3, p4, p5, p6, p7, p8, p9, p10, p11, p12⟩ := cells_fabric XX
   cases hb : evB u
   ·rw [hb] at HEV
    have HR : Hid (fabS x = false) := HNA.out hb
    clear HNA hb
    go_wp2_with fail
    refine HEV.mono ?_
    rintro e W4 ⟨rfl, bq⟩
    clear p0 p1 p2 p3 p4 p5 p6 p7 p8 p9 p10 p11 p12 x0 x1 x2 x3 x4 x5 x6 x7 x8
    replace BB := below_step BB bq
    replace XX := row_keep bq XX
    clear bq
    clear XX
    go_wp2
    exact HRT.out _ HR.out BB
   ·rw [hb] at HEV
    have HP : Hid (evB u = true) := hb
    clear HNA hb
    go_wp2_with fail
    refine HEV.mono ?_
    rintro e W4 ⟨rfl, bq⟩
    clear p0 p1 p2 p3 p4 p5 p6 p7 p8 p9 p10 p11 p12 x0 x1 x2 x3 x4 x5 x6 x7 x8
    replace BB := below_step BB bq
    replace XX := row_keep bq XX
    clear bq
    have HE9 : Hid (∀ j, j < k + 1 → ∀ v, x.2.2.2.2.2[j]? = some v → evB v = true) := fun j hj v hv => by
     by_cases he : j < k
     ·exact hno j he v hv
     ·have : j = k := by omega
      subst this
      rw [HX.out] at hv
      cases hv
      exact HP.out
    go_wp2
    go_roundw
    case rel =>
     first
      | exact ⟨⟨k + 1, by omega, by go_num, HE9.out, BB, XX⟩⟩
      | (repeat (apply Exists.intro)
         refine ⟨?_, rfl⟩
         exact ⟨⟨k + 1, by omega, by go_num, HE9.out, BB, XX⟩⟩)
    case measure => simp [intOf]; omega
  ·have HA : Hid (x.2.2.2.2.2.all (evB) = true) := all_upto fun j v hv => hno j (by have := (List.getElem?_eq_some_iff.1 hv).1; omega) v hv
   have hge : ¬ ((k : Int) < (x.2.2.2.2.2.length : Int)) := by omega
   clear hno hkk hlt
   obtain ⟨p0, p1, p2, p3, p4, p5, p6, p7, p8, p9, p10, p11, p12⟩ := cells_fabric XX
   go_wp2
   exact HEX.out _ HA.out BB XX
end Go.Proofs.YthnfkacboijneaaGreatDoor
