/- Walks: the end of the law on the path order. -/
import Derived.Test.YtmgggmlgmpfedaaW152s
import Derived.Deep.RegionHeld
import Derived.Deep.RegionHeld3
import Derived.Deep.DeepCutAuto
namespace Go.Proofs.Ytmgggmlgmpfedaa
open Go.RowKit
set_option linter.unusedSimpArgs false
set_option linter.unusedVariables false
set_option maxRecDepth 8000

noncomputable def tailPathE : Code := seqFrom 29 ((Try.f3.body).getD .skip)
set_option maxHeartbeats 20000000 in
theorem topPathE (zs : List Int) (hr : ∀ z ∈ zs, Rng z) (hzl : zs.length ≤ 256) (y3 : Int) (hy3 : Rng y3) (au : Option Addr) (cu : Nat) (w wc : World) (X : Nat → Prop) (HU : Hid (PV w X (.slice au zs.length cu) zs)) (n : Nat) (HN : Hid (n ≤ 9))
    (row : List ByteArray) (HRO : Hid (rowE row = 0)) (vr : Value) (a b c : Tm) (aa ab ac : Option Addr) (ca cb cc P Q R : Nat)
    (zab zxy zh : Bool) (F4 : Hid (zab = true → zxy = true)) (F5 : Hid (zab = true → zh = true)) (A28 : Hid (Evr (TpPath row vr a b c aa ab ac ca cb cc P Q R w) wc))
    {s1 s2 s4 s5 s6 s7 s16 s18 s19 s20 s21 s22 s23 s24 s25 s26 s27 s28 s29 s30 s31 s33 s34 s36 s37 s38 s39 s40 s41 s42 s43 s44 s45 s46 s47 s48 s49 s50 s51 s52 s53 s54 s55 s56 s57 s58 s59 s60 s61 s62 s63 s64 s65 s66 s67 s68 s69 s70 s71 s72 s73 s74 s75 s76 s77 s78 s79 s80 s81 s82 s83 s84 s85 s86 s87 s88 s89 s90 s91 s92 s93 s94 s95 s96 s97 s98 s99 s100 s101 s102 s103 s104 s105 s106 s107 s108 s109 s110 s111 s112 s113 s114 s115 s116 s117 s118 s119 s120 s121 s122 s123 s124 s125 s126 s127 s128 s129 s130 s131 s132 s133 s134 s135 s136 s137 s138 s139 s140 s141 s142 s143 s144 s145 s146 s147 s148 s149 s150 s151 s152 s153 s154 s155 s156 s157 s158 s159 s160 s161 s162 s163 s164 s165 s166 s167 s168 s169 s170 s171 s172 s173 s174 s175 s176 s177 s178 s179 s180 s181 s182 s183 s184 s185 s186 s187 s188 s189 s190 s191 s192 s193 s194 s195 s196 s197 s198 s199 s200 s201 s202 s203 s204 s205 s206 s207 s208 s209 s210 s211 s212 s213 s214 s215 s216 s217 s218 s219 s220 s221 s222 s223 s224 s225 s226 s227 s228 s229 s230 s231 s232 s233 s234 s235 s236 s237 s238 s239 s240 s241 s242 s243 s244 s245 s246 s247 s248 s249 s250 s251 s252 s253 s254 s255 s256 s257 s258 s259 s260 s261 s262 s263 s264 s265 s266 s267 s268 s269 s270 s271 s272 s273 s274 s275 s276 s277 s278 s279 s280 s281 s282 s283 s284 s285 s286 s287 s288 s289 s290 s291 s292 s293 s294 s295 s296 s297 : Value} :
    Code.wp Try.prog tailPathE (bodyPost Try.prog Try.f3 fun e w' => e = .returned (.bool true) ∧ Below w.heap.size w w') ⟨List.toArray (.slice au zs.length cu :: s1 :: s2 :: .int .i64 y3 :: s4 :: s5 :: s6 :: s7 :: .bool false :: vr :: .int .i64 (n : Int) :: .pointer (some ⟨P, 0, none⟩) :: .pointer (some ⟨Q, 0, none⟩) :: .pointer (some ⟨R, 0, none⟩) :: .bool zab :: .int .i64 0 :: s16 :: .int .i64 0 :: s18 :: s19 :: s20 :: s21 :: s22 :: s23 :: s24 :: s25 :: s26 :: s27 :: s28 :: s29 :: s30 :: s31 :: .bool zxy :: s33 :: s34 :: .bool zh :: s36 :: s37 :: s38 :: s39 :: s40 :: s41 :: s42 :: s43 :: s44 :: s45 :: s46 :: s47 :: s48 :: s49 :: s50 :: s51 :: s52 :: s53 :: s54 :: s55 :: s56 :: s57 :: s58 :: s59 :: s60 :: s61 :: s62 :: s63 :: s64 :: s65 :: s66 :: s67 :: s68 :: s69 :: s70 :: s71 :: s72 :: s73 :: s74 :: s75 :: s76 :: s77 :: s78 :: s79 :: s80 :: s81 :: s82 :: s83 :: s84 :: s85 :: s86 :: s87 :: s88 :: s89 :: s90 :: s91 :: s92 :: s93 :: s94 :: s95 :: s96 :: s97 :: s98 :: s99 :: s100 :: s101 :: s102 :: s103 :: s104 :: s105 :: s106 :: s107 :: s108 :: s109 :: s110 :: s111 :: s112 :: s113 :: s114 :: s115 :: s116 :: s117 :: s118 :: s119 :: s120 :: s121 :: s122 :: s123 :: s124 :: s125 :: s126 :: s127 :: s128 :: s129 :: s130 :: s131 :: s132 :: s133 :: s134 :: s135 :: s136 :: s137 :: s138 :: s139 :: s140 :: s141 :: s142 :: s143 :: s144 :: s145 :: s146 :: s147 :: s148 :: s149 :: s150 :: s151 :: s152 :: s153 :: s154 :: s155 :: s156 :: s157 :: s158 :: s159 :: s160 :: s161 :: s162 :: s163 :: s164 :: s165 :: s166 :: s167 :: s168 :: s169 :: s170 :: s171 :: s172 :: s173 :: s174 :: s175 :: s176 :: s177 :: s178 :: s179 :: s180 :: s181 :: s182 :: s183 :: s184 :: s185 :: s186 :: s187 :: s188 :: s189 :: s190 :: s191 :: s192 :: s193 :: s194 :: s195 :: s196 :: s197 :: s198 :: s199 :: s200 :: s201 :: s202 :: s203 :: s204 :: s205 :: s206 :: s207 :: s208 :: s209 :: s210 :: s211 :: s212 :: s213 :: s214 :: s215 :: s216 :: s217 :: s218 :: s219 :: s220 :: s221 :: s222 :: s223 :: s224 :: s225 :: s226 :: s227 :: s228 :: s229 :: s230 :: s231 :: s232 :: s233 :: s234 :: s235 :: s236 :: s237 :: s238 :: s239 :: s240 :: s241 :: s242 :: s243 :: s244 :: s245 :: s246 :: s247 :: s248 :: s249 :: s250 :: s251 :: s252 :: s253 :: s254 :: s255 :: s256 :: s257 :: s258 :: s259 :: s260 :: s261 :: s262 :: s263 :: s264 :: s265 :: s266 :: s267 :: s268 :: s269 :: s270 :: s271 :: s272 :: s273 :: s274 :: s275 :: s276 :: s277 :: s278 :: s279 :: s280 :: s281 :: s282 :: s283 :: s284 :: s285 :: s286 :: s287 :: s288 :: s289 :: s290 :: s291 :: s292 :: s293 :: s294 :: s295 :: s296 :: s297 :: []), []⟩ wc := by
  have HTOP : Hid (top n ≤ 17) := by have := HN.out; unfold Hid top; split <;> omega
  conv => arg 2; whnf
  go_upto_region 29 with fail
  go_cut [255] (fun o w' => o = .bool false ∧ wc = w')
  case first =>
    cases zab with
    | false =>
      go_wp2_with fail
      go_meet
      exact ⟨rfl, rfl⟩
    | true =>
      have f4 := F4.out rfl
      have f5 := F5.out rfl
      subst f4
      subst f5
      go_wp2_with fail
      go_meet
      exact ⟨rfl, rfl⟩
  obtain ⟨rfl, rfl⟩ := hcut
  go_wp2_with fail
  refine (ground_any zs hr (by omega) n 130 _ _ X (by exact HU.out.later A28.out.now.bl) (by have := HN.out; omega) (by have := HTOP.out; omega)).mono ?_
  rintro e w29 ⟨ap, cp, n1, p, rfl, hsp, hzp, _, _, hb, hep, hgp⟩
  have GP := hide hgp
  have MP : Hid (mayE p = 0) := may_of hep (by have := HTOP.out; omega)
  have A29 := hide (A28.out.box (T := 28) hb hsp cp)
  clear hgp hep hzp hsp hb A28
  go_upto_region 32 with fail
  generalize w29.heap.size = PP at *
  generalize w29.alloc (.cells #[.string p.name, .slice ap p.args.length cp] 28) = w30 at *
  clear w29
  go_wp2_with fail
  refine (ground_any zs hr (by omega) n 160 _ _ X (by exact HU.out.later A29.out.now.1.bl) (by have := HN.out; omega) (by have := HTOP.out; omega)).mono ?_
  rintro e w31 ⟨aq, cq, n2, q, rfl, hsq, hzq, _, _, hb, heq, hgq⟩
  have GQ := hide hgq
  have MQ : Hid (mayE q = 0) := may_of heq (by have := HTOP.out; omega)
  have A31 := hide (A29.out.box (T := 28) hb hsq cq)
  clear hgq heq hzq hsq hb A29
  go_upto_region 33 with fail
  generalize w31.heap.size = PQ at *
  generalize w31.alloc (.cells #[.string q.name, .slice aq q.args.length cq] 28) = w32 at *
  clear w31
  obtain ⟨zpq, hzpq⟩ : ∃ z : Bool, z = pathB row p q := ⟨_, rfl⟩
  obtain ⟨zqp, hzqp⟩ : ∃ z : Bool, z = pathB row q p := ⟨_, rfl⟩
  have TOT : Hid (sameB p q = false → zpq = !zqp) := fun h => by
    have hne : ¬ p = q := fun e => by rw [sameB_iff.2 e] at h; cases h
    rcases path_total row _ p q (Nat.le_refl _) GP.out GQ.out with h | h | h
    · exact absurd h hne
    · rw [hzpq, hzqp, h, path_asymm h]; rfl
    · rw [hzpq, hzqp, h, path_asymm h]; rfl
  have HPQ := hide hzpq
  have HQP := hide hzqp
  clear hzpq hzqp
  have x0 : w32.cell? ⟨PP, 0, none⟩ = some (.string p.name) := A31.out.now.1.2.1.cell 0
  have x1 : w32.cell? ⟨PP, 1, none⟩ = some (.slice ap p.args.length cp) := A31.out.now.1.2.1.cell 1
  have x2 : w32.cell? ⟨PQ, 0, none⟩ = some (.string q.name) := A31.out.now.2.1.cell 0
  have x3 : w32.cell? ⟨PQ, 1, none⟩ = some (.slice aq q.args.length cq) := A31.out.now.2.1.cell 1
  go_wp2_with fail
  refine (path_good HRO.out MP.out MQ.out zpq HPQ.out _ _ _ _ _ _ (by exact A31.out.now.1.1.rw) (by exact A31.out.now.1.2.2) (by exact A31.out.now.2.2)).mono ?_
  rintro e w33 ⟨rfl, hb⟩
  have A33 := hide (A31.out.later hb)
  clear hb A31 x0 x1 x2 x3
  have x0 : w33.cell? ⟨PP, 0, none⟩ = some (.string p.name) := A33.out.now.1.2.1.cell 0
  have x1 : w33.cell? ⟨PP, 1, none⟩ = some (.slice ap p.args.length cp) := A33.out.now.1.2.1.cell 1
  have x2 : w33.cell? ⟨PQ, 0, none⟩ = some (.string q.name) := A33.out.now.2.1.cell 0
  have x3 : w33.cell? ⟨PQ, 1, none⟩ = some (.slice aq q.args.length cq) := A33.out.now.2.1.cell 1
  go_wp2_with fail
  refine (path_good HRO.out MQ.out MP.out zqp HQP.out _ _ _ _ _ _ (by exact A33.out.now.1.1.rw) (by exact A33.out.now.2.2) (by exact A33.out.now.1.2.2)).mono ?_
  rintro e w34 ⟨rfl, hb⟩
  have A34 := hide (A33.out.later hb)
  clear hb A33 x0 x1 x2 x3
  have x0 : w34.cell? ⟨PP, 0, none⟩ = some (.string p.name) := A34.out.now.1.2.1.cell 0
  have x1 : w34.cell? ⟨PP, 1, none⟩ = some (.slice ap p.args.length cp) := A34.out.now.1.2.1.cell 1
  have x2 : w34.cell? ⟨PQ, 0, none⟩ = some (.string q.name) := A34.out.now.2.1.cell 0
  have x3 : w34.cell? ⟨PQ, 1, none⟩ = some (.slice aq q.args.length cq) := A34.out.now.2.1.cell 1
  go_wp2_with fail
  refine (sameR_all p q _ _ _ (fun _ => True) (fun _ => True) ⟨_, _, rfl, A34.out.now.1.2.2⟩ ⟨_, _, rfl, A34.out.now.2.2⟩).mono ?_
  rintro e w35 ⟨rfl, hb⟩
  have A35 := hide (A34.out.later hb)
  clear hb A34 x0 x1 x2 x3 HPQ HQP
  cases hsm : sameB p q with
  | true =>
    clear hsm
    go_wp2_with fail
    go_ret
    exact ⟨rfl, A35.out.now.1.1.bl⟩
  | false =>
    have ht := TOT.out hsm
    subst ht
    clear hsm TOT
    cases zqp <;> (go_wp2_with fail; go_ret; exact ⟨rfl, A35.out.now.1.1.bl⟩)
#print axioms topPathE
end Go.Proofs.Ytmgggmlgmpfedaa
