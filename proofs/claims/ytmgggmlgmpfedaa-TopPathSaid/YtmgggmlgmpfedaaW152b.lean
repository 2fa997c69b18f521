/- Walks: the middle part of the law on the path order. -/
import Derived.Test.YtmgggmlgmpfedaaW152c
import Derived.Deep.RegionHeld
import Derived.Deep.RegionHeld3
import Derived.Deep.DeepCutAuto
namespace Go.Proofs.Ytmgggmlgmpfedaa
open Go.RowKit
set_option linter.unusedSimpArgs false
set_option linter.unusedVariables false
set_option maxRecDepth 8000

noncomputable def tailPathB : Code := seqFrom 16 ((Try.f3.body).getD .skip)
set_option maxHeartbeats 20000000 in
theorem topPathB (zs : List Int) (hr : ∀ z ∈ zs, Rng z) (hzl : zs.length ≤ 256) (y3 : Int) (hy3 : Rng y3) (au : Option Addr) (cu : Nat) (w wc : World) (X : Nat → Prop) (HU : Hid (PV w X (.slice au zs.length cu) zs)) (n : Nat) (HN : Hid (n ≤ 9))
    (row : List ByteArray) (HRO : Hid (rowE row = 0)) (vr : Value) (a b c : Tm) (aa ab ac : Option Addr) (ca cb cc P Q R : Nat) (Za : Hid (sizeL [a] ≤ 17)) (Zb : Hid (sizeL [b] ≤ 17)) (Zc : Hid (sizeL [c] ≤ 17)) (Ea : Hid (errL [a] = 0)) (Eb : Hid (errL [b] = 0)) (Ec : Hid (errL [c] = 0))
    (zab : Bool) (F3 : Hid (zab = pathB row a b)) (U : Nat) (a6 : Option Addr) (c6 : Nat) (A11 : Hid (Evr (fun wr => TpPath row vr a b c aa ab ac ca cb cc P Q R w wr ∧ Blk wr U #[.string (upT a).name, .slice a6 (upT a).args.length c6] 28 ∧ Sl wr (fun _ => True) a6 (upT a).args) wc))
    {s1 s2 s4 s5 s6 s7 s15 s16 s18 s19 s20 s21 s22 s23 s25 s26 s27 s28 s29 s30 s31 s32 s33 s34 s35 s36 s37 s38 s39 s40 s41 s42 s43 s44 s45 s46 s47 s48 s49 s50 s51 s52 s53 s54 s55 s56 s57 s58 s59 s60 s61 s62 s63 s64 s65 s66 s67 s68 s69 s70 s71 s72 s73 s74 s75 s76 s77 s78 s79 s80 s81 s82 s83 s84 s85 s86 s87 s88 s89 s90 s91 s92 s93 s94 s95 s96 s97 s98 s99 s100 s101 s102 s103 s104 s105 s106 s107 s108 s109 s110 s111 s112 s113 s114 s115 s116 s117 s118 s119 s120 s121 s122 s123 s124 s125 s126 s127 s128 s129 s130 s131 s132 s133 s134 s135 s136 s137 s138 s139 s140 s141 s142 s143 s144 s145 s146 s147 s148 s149 s150 s151 s152 s153 s154 s155 s156 s157 s158 s159 s160 s161 s162 s163 s164 s165 s166 s167 s168 s169 s170 s171 s172 s173 s174 s175 s176 s177 s178 s179 s180 s181 s182 s183 s184 s185 s186 s187 s188 s189 s190 s191 s192 s193 s194 s195 s196 s197 s198 s199 s200 s201 s202 s203 s204 s205 s206 s207 s208 s209 s210 s211 s212 s213 s214 s215 s216 s217 s218 s219 s220 s221 s222 s223 s224 s225 s226 s227 s228 s229 s230 s231 s232 s233 s234 s235 s236 s237 s238 s239 s240 s241 s242 s243 s244 s245 s246 s247 s248 s249 s250 s251 s252 s253 s254 s255 s256 s257 s258 s259 s260 s261 s262 s263 s264 s265 s266 s267 s268 s269 s270 s271 s272 s273 s274 s275 s276 s277 s278 s279 s280 s281 s282 s283 s284 s285 s286 s287 s288 s289 s290 s291 s292 s293 s294 s295 s296 s297 : Value} :
    Code.wp Try.prog tailPathB (bodyPost Try.prog Try.f3 fun e w' => e = .returned (.bool true) ∧ Below w.heap.size w w') ⟨List.toArray (.slice au zs.length cu :: s1 :: s2 :: .int .i64 y3 :: s4 :: s5 :: s6 :: s7 :: .bool false :: vr :: .int .i64 (n : Int) :: .pointer (some ⟨P, 0, none⟩) :: .pointer (some ⟨Q, 0, none⟩) :: .pointer (some ⟨R, 0, none⟩) :: .bool zab :: s15 :: s16 :: .int .i64 0 :: s18 :: s19 :: s20 :: s21 :: s22 :: s23 :: .pointer (some ⟨U, 0, none⟩) :: s25 :: s26 :: s27 :: s28 :: s29 :: s30 :: s31 :: s32 :: s33 :: s34 :: s35 :: s36 :: s37 :: s38 :: s39 :: s40 :: s41 :: s42 :: s43 :: s44 :: s45 :: s46 :: s47 :: s48 :: s49 :: s50 :: s51 :: s52 :: s53 :: s54 :: s55 :: s56 :: s57 :: s58 :: s59 :: s60 :: s61 :: s62 :: s63 :: s64 :: s65 :: s66 :: s67 :: s68 :: s69 :: s70 :: s71 :: s72 :: s73 :: s74 :: s75 :: s76 :: s77 :: s78 :: s79 :: s80 :: s81 :: s82 :: s83 :: s84 :: s85 :: s86 :: s87 :: s88 :: s89 :: s90 :: s91 :: s92 :: s93 :: s94 :: s95 :: s96 :: s97 :: s98 :: s99 :: s100 :: s101 :: s102 :: s103 :: s104 :: s105 :: s106 :: s107 :: s108 :: s109 :: s110 :: s111 :: s112 :: s113 :: s114 :: s115 :: s116 :: s117 :: s118 :: s119 :: s120 :: s121 :: s122 :: s123 :: s124 :: s125 :: s126 :: s127 :: s128 :: s129 :: s130 :: s131 :: s132 :: s133 :: s134 :: s135 :: s136 :: s137 :: s138 :: s139 :: s140 :: s141 :: s142 :: s143 :: s144 :: s145 :: s146 :: s147 :: s148 :: s149 :: s150 :: s151 :: s152 :: s153 :: s154 :: s155 :: s156 :: s157 :: s158 :: s159 :: s160 :: s161 :: s162 :: s163 :: s164 :: s165 :: s166 :: s167 :: s168 :: s169 :: s170 :: s171 :: s172 :: s173 :: s174 :: s175 :: s176 :: s177 :: s178 :: s179 :: s180 :: s181 :: s182 :: s183 :: s184 :: s185 :: s186 :: s187 :: s188 :: s189 :: s190 :: s191 :: s192 :: s193 :: s194 :: s195 :: s196 :: s197 :: s198 :: s199 :: s200 :: s201 :: s202 :: s203 :: s204 :: s205 :: s206 :: s207 :: s208 :: s209 :: s210 :: s211 :: s212 :: s213 :: s214 :: s215 :: s216 :: s217 :: s218 :: s219 :: s220 :: s221 :: s222 :: s223 :: s224 :: s225 :: s226 :: s227 :: s228 :: s229 :: s230 :: s231 :: s232 :: s233 :: s234 :: s235 :: s236 :: s237 :: s238 :: s239 :: s240 :: s241 :: s242 :: s243 :: s244 :: s245 :: s246 :: s247 :: s248 :: s249 :: s250 :: s251 :: s252 :: s253 :: s254 :: s255 :: s256 :: s257 :: s258 :: s259 :: s260 :: s261 :: s262 :: s263 :: s264 :: s265 :: s266 :: s267 :: s268 :: s269 :: s270 :: s271 :: s272 :: s273 :: s274 :: s275 :: s276 :: s277 :: s278 :: s279 :: s280 :: s281 :: s282 :: s283 :: s284 :: s285 :: s286 :: s287 :: s288 :: s289 :: s290 :: s291 :: s292 :: s293 :: s294 :: s295 :: s296 :: s297 :: []), []⟩ wc := by
  have MA : Hid (mayE a = 0) := may_of Ea.out (by have := Za.out; omega)
  have MB : Hid (mayE b = 0) := may_of Eb.out (by have := Zb.out; omega)
  conv => arg 2; whnf
  obtain ⟨p0, p1, q0, q1, r0, r1⟩ := A11.out.now.1.cells
  have u0 : wc.cell? ⟨U, 0, none⟩ = some (.string (upT a).name) := A11.out.now.2.1.cell 0
  have u1 : wc.cell? ⟨U, 1, none⟩ = some (.slice a6 (upT a).args.length c6) := A11.out.now.2.1.cell 1
  have MU : Hid (mayE (upT a) = 0) := up_may Ea.out (by have := Za.out; omega)
  obtain ⟨ut, hut⟩ : ∃ ut, ut = upT a := ⟨_, rfl⟩
  rw [← hut] at A11 u0 u1 MU
  have UA : Hid (pathB row ut a = true) := by rw [hut]; exact up_path row a
  clear hut
  go_wp2_with fail
  refine (path_good HRO.out MU.out MA.out true UA.out.symm _ _ _ _ _ _ (by exact A11.out.now.1.rw) (by exact A11.out.now.2.2) (by exact A11.out.now.1.s1)).mono ?_
  rintro e w12 ⟨rfl, hb⟩
  have A12 := hide (A11.out.later hb)
  clear hb A11 p0 p1 q0 q1 r0 r1 u0 u1
  obtain ⟨p0, p1, q0, q1, r0, r1⟩ := A12.out.now.1.cells
  have u0 : w12.cell? ⟨U, 0, none⟩ = some (.string ut.name) := A12.out.now.2.1.cell 0
  have u1 : w12.cell? ⟨U, 1, none⟩ = some (.slice a6 ut.args.length c6) := A12.out.now.2.1.cell 1
  go_wp2_with fail
  refine (path_good HRO.out MA.out MU.out false (path_asymm UA.out).symm _ _ _ _ _ _ (by exact A12.out.now.1.rw) (by exact A12.out.now.1.s1) (by exact A12.out.now.2.2)).mono ?_
  rintro e w13 ⟨rfl, hb⟩
  have A13 : Hid (Evr (TpPath row vr a b c aa ab ac ca cb cc P Q R w) w13) := (A12.out.later hb).imp fun _ h => h.1
  clear hb A12 p0 p1 q0 q1 r0 r1 u0 u1
  go_wp2_with fail
  refine (bindsFrom_any 2 (by decide) (by decide) zs hr (by omega) 3 90 _ _ X (by exact HU.out.later A13.out.now.bl) (by decide) (by decide)).mono ?_
  rintro e w14 ⟨vb, ls, rfl, hbv, hfo, hall, hb⟩
  have VB : Hid (VarsB ls) := varsB_four hfo
  have EB : Hid (∀ d ∈ ls, errL [d.t] = 0) := fun d hd => (hall d hd).2
  have A14 := hide ((A13.out.later hb).and hbv.ev)
  clear hbv hfo hall hb A13
  obtain ⟨p0, p1, q0, q1, r0, r1⟩ := A14.out.now.1.cells
  go_wp2_with fail
  refine (onSomeV_any ls a _ _ _ (by exact A14.out.now.2) ⟨_, _, rfl, A14.out.now.1.s1⟩ (by have := Za.out; omega)).mono ?_
  rintro e w15 ⟨x, ax, cx, ok, rfl, hx, hsx, hb⟩
  have HX := hide hx
  have A15 := hide (A14.out.box (T := 28) hb hsx cx)
  clear hx hsx hb A14 p0 p1 q0 q1 r0 r1
  go_upto_region 22 with fail
  generalize w15.heap.size = PX at *
  generalize w15.alloc (.cells #[.string x.name, .slice ax x.args.length cx] 28) = w16 at *
  clear w15
  obtain ⟨p0, p1, q0, q1, r0, r1⟩ := A15.out.now.1.1.cells
  go_wp2_with fail
  refine (onSomeV_any ls b _ _ _ (by exact A15.out.now.1.2) ⟨_, _, rfl, A15.out.now.1.1.s2⟩ (by have := Zb.out; omega)).mono ?_
  rintro e w17 ⟨y, ay, cy, good, rfl, hy, hsy, hb⟩
  have HY := hide hy
  have A17 := hide (A15.out.box (T := 28) hb hsy cy)
  clear hy hsy hb A15 p0 p1 q0 q1 r0 r1
  go_upto_region 23 with fail
  generalize w17.heap.size = PY at *
  generalize w17.alloc (.cells #[.string y.name, .slice ay y.args.length cy] 28) = w18 at *
  clear w17
  have x0 : w18.cell? ⟨PX, 0, none⟩ = some (.string x.name) := A17.out.now.1.2.1.cell 0
  have x1 : w18.cell? ⟨PX, 1, none⟩ = some (.slice ax x.args.length cx) := A17.out.now.1.2.1.cell 1
  cases ok with
  | false =>
    go_wp2_with fail
    go_ret
    exact ⟨rfl, A17.out.now.1.1.1.bl⟩
  | true =>
  cases good with
  | false =>
    go_wp2_with fail
    go_ret
    exact ⟨rfl, A17.out.now.1.1.1.bl⟩
  | true =>
  have HX2 : Hid (x = onT ls a) := HX.out rfl
  have HY2 : Hid (y = onT ls b) := HY.out rfl
  clear HX HY
  go_wp2_with fail
  refine (size_any x _ _ _ (fun _ => True) ⟨_, _, rfl, A17.out.now.1.2.2⟩ (by decide) (by decide)).mono ?_
  rintro e w19 ⟨rfl, hb⟩
  have A19 := hide (A17.out.later hb)
  clear hb A17 x0 x1
  by_cases hzx : 60 < sizeL [x]
  · have hm : min (sizeL [x] : Int) (60 + 1) = 61 := by omega
    rw [hm]
    go_wp2_with fail
    go_ret
    exact ⟨rfl, A19.out.now.1.1.1.bl⟩
  have HZX : Hid (sizeL [x] ≤ 60) := by unfold Hid; omega
  obtain ⟨mx, hmx, hmx2⟩ : ∃ mx : Int, min (sizeL [x] : Int) (60 + 1) = mx ∧ mx ≤ 60 := ⟨_, rfl, by omega⟩
  rw [hmx]
  clear hmx hzx
  have x0 : w19.cell? ⟨PY, 0, none⟩ = some (.string y.name) := A19.out.now.2.1.cell 0
  have x1 : w19.cell? ⟨PY, 1, none⟩ = some (.slice ay y.args.length cy) := A19.out.now.2.1.cell 1
  go_wp2_with fail
  refine (size_any y _ _ _ (fun _ => True) ⟨_, _, rfl, A19.out.now.2.2⟩ (by decide) (by decide)).mono ?_
  rintro e w20 ⟨rfl, hb⟩
  have A20 := hide (A19.out.later hb)
  clear hb A19 x0 x1
  by_cases hzy : 60 < sizeL [y]
  · have hm : min (sizeL [y] : Int) (60 + 1) = 61 := by omega
    rw [hm]
    go_wp2_with fail
    go_ret
    exact ⟨rfl, A20.out.now.1.1.1.bl⟩
  have HZY : Hid (sizeL [y] ≤ 60) := by unfold Hid; omega
  obtain ⟨my, hmy, hmy2⟩ : ∃ my : Int, min (sizeL [y] : Int) (60 + 1) = my ∧ my ≤ 60 := ⟨_, rfl, by omega⟩
  rw [hmy]
  clear hmy hzy
  have MX : Hid (mayE x = 0) := may_of (by rw [HX2.out]; exact err_onT VB.out EB.out Ea.out) (by have := HZX.out; omega)
  have MY : Hid (mayE y = 0) := may_of (by rw [HY2.out]; exact err_onT VB.out EB.out Eb.out) (by have := HZY.out; omega)
  obtain ⟨zxy, hzxy⟩ : ∃ z : Bool, z = pathB row x y := ⟨_, rfl⟩
  have F4 : Hid (zab = true → zxy = true) := fun h => by
    rw [hzxy, HX2.out, HY2.out]
    exact path_on VB.out _ a b (Nat.le_refl _) (by rw [← F3.out]; exact h)
  have x0 : w20.cell? ⟨PX, 0, none⟩ = some (.string x.name) := A20.out.now.1.2.1.cell 0
  have x1 : w20.cell? ⟨PX, 1, none⟩ = some (.slice ax x.args.length cx) := A20.out.now.1.2.1.cell 1
  have x2 : w20.cell? ⟨PY, 0, none⟩ = some (.string y.name) := A20.out.now.2.1.cell 0
  have x3 : w20.cell? ⟨PY, 1, none⟩ = some (.slice ay y.args.length cy) := A20.out.now.2.1.cell 1
  have HZXY := hide hzxy
  clear hzxy
  go_upto_region 25 with fail
  go_cut [32, 15] (fun z e wc => z = .bool zxy ∧ e = .int .i64 0 ∧ Evr (TpPath row vr a b c aa ab ac ca cb cc P Q R w) wc)
  case first =>
    go_wp2_with fail
    refine (path_good HRO.out MX.out MY.out zxy HZXY.out _ _ _ _ _ _ (by exact A20.out.now.1.1.1.rw) (by exact A20.out.now.1.2.2) (by exact A20.out.now.2.2)).mono ?_
    rintro e w21 ⟨rfl, hb⟩
    have A21 : Hid (Evr (TpPath row vr a b c aa ab ac ca cb cc P Q R w) w21) := (A20.out.later hb).imp fun _ h => h.1.1.1
    clear hb
    go_wp2_with fail
    go_meet
    exact ⟨rfl, rfl, A21.out⟩
  obtain ⟨rfl, rfl, hev⟩ := hcut
  have A21 := hide hev
  go_step
  exact topPathC zs hr hzl y3 hy3 au cu w _ X HU n HN row HRO vr a b c aa ab ac ca cb cc P Q R Za Zb Zc Ea Eb Ec zab zxy F3 F4 A21
#print axioms topPathB
end Go.Proofs.Ytmgggmlgmpfedaa
