/- Walks: the last part of the law on the path order. -/
import Derived.Test.YtmgggmlgmpfedaaW152e
import Derived.Deep.RegionHeld
import Derived.Deep.RegionHeld3
import Derived.Deep.DeepCutAuto
namespace Go.Proofs.Ytmgggmlgmpfedaa
open Go.RowKit
set_option linter.unusedSimpArgs false
set_option linter.unusedVariables false
set_option maxRecDepth 8000

noncomputable def tailPathC : Code := seqFrom 26 ((Try.f3.body).getD .skip)
set_option maxHeartbeats 20000000 in
theorem topPathC (zs : List Int) (hr : ∀ z ∈ zs, Rng z) (hzl : zs.length ≤ 256) (y3 : Int) (hy3 : Rng y3) (au : Option Addr) (cu : Nat) (w w21 : World) (X : Nat → Prop) (HU : Hid (PV w X (.slice au zs.length cu) zs)) (n : Nat) (HN : Hid (n ≤ 9))
    (row : List ByteArray) (HRO : Hid (rowE row = 0)) (vr : Value) (a b c : Tm) (aa ab ac : Option Addr) (ca cb cc P Q R : Nat) (Za : Hid (sizeL [a] ≤ 17)) (Zb : Hid (sizeL [b] ≤ 17)) (Zc : Hid (sizeL [c] ≤ 17)) (Ea : Hid (errL [a] = 0)) (Eb : Hid (errL [b] = 0)) (Ec : Hid (errL [c] = 0))
    (zab zxy : Bool) (F3 : Hid (zab = pathB row a b)) (F4 : Hid (zab = true → zxy = true)) (A21 : Hid (Evr (TpPath row vr a b c aa ab ac ca cb cc P Q R w) w21))
    {s1 s2 s4 s5 s6 s7 s16 s17 s18 s19 s20 s21 s22 s23 s24 s25 s26 s27 s28 s29 s30 s31 s33 s34 s35 s36 s37 s38 s39 s40 s41 s42 s43 s44 s45 s46 s47 s48 s49 s50 s51 s52 s53 s54 s55 s56 s57 s58 s59 s60 s61 s62 s63 s64 s65 s66 s67 s68 s69 s70 s71 s72 s73 s74 s75 s76 s77 s78 s79 s80 s81 s82 s83 s84 s85 s86 s87 s88 s89 s90 s91 s92 s93 s94 s95 s96 s97 s98 s99 s100 s101 s102 s103 s104 s105 s106 s107 s108 s109 s110 s111 s112 s113 s114 s115 s116 s117 s118 s119 s120 s121 s122 s123 s124 s125 s126 s127 s128 s129 s130 s131 s132 s133 s134 s135 s136 s137 s138 s139 s140 s141 s142 s143 s144 s145 s146 s147 s148 s149 s150 s151 s152 s153 s154 s155 s156 s157 s158 s159 s160 s161 s162 s163 s164 s165 s166 s167 s168 s169 s170 s171 s172 s173 s174 s175 s176 s177 s178 s179 s180 s181 s182 s183 s184 s185 s186 s187 s188 s189 s190 s191 s192 s193 s194 s195 s196 s197 s198 s199 s200 s201 s202 s203 s204 s205 s206 s207 s208 s209 s210 s211 s212 s213 s214 s215 s216 s217 s218 s219 s220 s221 s222 s223 s224 s225 s226 s227 s228 s229 s230 s231 s232 s233 s234 s235 s236 s237 s238 s239 s240 s241 s242 s243 s244 s245 s246 s247 s248 s249 s250 s251 s252 s253 s254 s255 s256 s257 s258 s259 s260 s261 s262 s263 s264 s265 s266 s267 s268 s269 s270 s271 s272 s273 s274 s275 s276 s277 s278 s279 s280 s281 s282 s283 s284 s285 s286 s287 s288 s289 s290 s291 s292 s293 s294 s295 s296 s297 : Value} :
    Code.wp Try.prog tailPathC (bodyPost Try.prog Try.f3 fun e w' => e = .returned (.bool true) ∧ Below w.heap.size w w') ⟨List.toArray (.slice au zs.length cu :: s1 :: s2 :: .int .i64 y3 :: s4 :: s5 :: s6 :: s7 :: .bool false :: vr :: .int .i64 (n : Int) :: .pointer (some ⟨P, 0, none⟩) :: .pointer (some ⟨Q, 0, none⟩) :: .pointer (some ⟨R, 0, none⟩) :: .bool zab :: .int .i64 0 :: s16 :: s17 :: s18 :: s19 :: s20 :: s21 :: s22 :: s23 :: s24 :: s25 :: s26 :: s27 :: s28 :: s29 :: s30 :: s31 :: .bool zxy :: s33 :: s34 :: s35 :: s36 :: s37 :: s38 :: s39 :: s40 :: s41 :: s42 :: s43 :: s44 :: s45 :: s46 :: s47 :: s48 :: s49 :: s50 :: s51 :: s52 :: s53 :: s54 :: s55 :: s56 :: s57 :: s58 :: s59 :: s60 :: s61 :: s62 :: s63 :: s64 :: s65 :: s66 :: s67 :: s68 :: s69 :: s70 :: s71 :: s72 :: s73 :: s74 :: s75 :: s76 :: s77 :: s78 :: s79 :: s80 :: s81 :: s82 :: s83 :: s84 :: s85 :: s86 :: s87 :: s88 :: s89 :: s90 :: s91 :: s92 :: s93 :: s94 :: s95 :: s96 :: s97 :: s98 :: s99 :: s100 :: s101 :: s102 :: s103 :: s104 :: s105 :: s106 :: s107 :: s108 :: s109 :: s110 :: s111 :: s112 :: s113 :: s114 :: s115 :: s116 :: s117 :: s118 :: s119 :: s120 :: s121 :: s122 :: s123 :: s124 :: s125 :: s126 :: s127 :: s128 :: s129 :: s130 :: s131 :: s132 :: s133 :: s134 :: s135 :: s136 :: s137 :: s138 :: s139 :: s140 :: s141 :: s142 :: s143 :: s144 :: s145 :: s146 :: s147 :: s148 :: s149 :: s150 :: s151 :: s152 :: s153 :: s154 :: s155 :: s156 :: s157 :: s158 :: s159 :: s160 :: s161 :: s162 :: s163 :: s164 :: s165 :: s166 :: s167 :: s168 :: s169 :: s170 :: s171 :: s172 :: s173 :: s174 :: s175 :: s176 :: s177 :: s178 :: s179 :: s180 :: s181 :: s182 :: s183 :: s184 :: s185 :: s186 :: s187 :: s188 :: s189 :: s190 :: s191 :: s192 :: s193 :: s194 :: s195 :: s196 :: s197 :: s198 :: s199 :: s200 :: s201 :: s202 :: s203 :: s204 :: s205 :: s206 :: s207 :: s208 :: s209 :: s210 :: s211 :: s212 :: s213 :: s214 :: s215 :: s216 :: s217 :: s218 :: s219 :: s220 :: s221 :: s222 :: s223 :: s224 :: s225 :: s226 :: s227 :: s228 :: s229 :: s230 :: s231 :: s232 :: s233 :: s234 :: s235 :: s236 :: s237 :: s238 :: s239 :: s240 :: s241 :: s242 :: s243 :: s244 :: s245 :: s246 :: s247 :: s248 :: s249 :: s250 :: s251 :: s252 :: s253 :: s254 :: s255 :: s256 :: s257 :: s258 :: s259 :: s260 :: s261 :: s262 :: s263 :: s264 :: s265 :: s266 :: s267 :: s268 :: s269 :: s270 :: s271 :: s272 :: s273 :: s274 :: s275 :: s276 :: s277 :: s278 :: s279 :: s280 :: s281 :: s282 :: s283 :: s284 :: s285 :: s286 :: s287 :: s288 :: s289 :: s290 :: s291 :: s292 :: s293 :: s294 :: s295 :: s296 :: s297 :: []), []⟩ w21 := by
  have HTOP : Hid (top n ≤ 17) := by have := HN.out; unfold Hid top; split <;> omega
  conv => arg 2; whnf
  obtain ⟨p0, p1, q0, q1, r0, r1⟩ := A21.out.now.cells
  have lP : P < w21.heap.size := A21.out.now.k1.lt
  have lP1 : P < w21.heap.size + 1 := by omega
  have lP2 : P < w21.heap.size + 1 + 1 := by omega
  have lP3 : P < w21.heap.size + 1 + 1 + 1 := by omega
  have lP4 : P < w21.heap.size + 1 + 1 + 1 + 1 := by omega
  have lP5 : P < w21.heap.size + 1 + 1 + 1 + 1 + 1 := by omega
  have lP6 : P < w21.heap.size + 1 + 1 + 1 + 1 + 1 + 1 := by omega
  have lQ : Q < w21.heap.size := A21.out.now.k2.lt
  have lQ1 : Q < w21.heap.size + 1 := by omega
  have lQ2 : Q < w21.heap.size + 1 + 1 := by omega
  have lQ3 : Q < w21.heap.size + 1 + 1 + 1 := by omega
  have lQ4 : Q < w21.heap.size + 1 + 1 + 1 + 1 := by omega
  have lQ5 : Q < w21.heap.size + 1 + 1 + 1 + 1 + 1 := by omega
  have lQ6 : Q < w21.heap.size + 1 + 1 + 1 + 1 + 1 + 1 := by omega
  have lR : R < w21.heap.size := A21.out.now.k3.lt
  have lR1 : R < w21.heap.size + 1 := by omega
  have lR2 : R < w21.heap.size + 1 + 1 := by omega
  have lR3 : R < w21.heap.size + 1 + 1 + 1 := by omega
  have lR4 : R < w21.heap.size + 1 + 1 + 1 + 1 := by omega
  have lR5 : R < w21.heap.size + 1 + 1 + 1 + 1 + 1 := by omega
  have lR6 : R < w21.heap.size + 1 + 1 + 1 + 1 + 1 + 1 := by omega
  have A27 := hide (ctx_world A21.out (fun _ h => h.s1) (fun _ h => h.s2) (fun _ h => h.s3) ca cb cc)
  go_upto_region 27 with fail
  clear A21 p0 p1 q0 q1 r0 r1 lP lP1 lP2 lP3 lP4 lP5 lP6 lQ lQ1 lQ2 lQ3 lQ4 lQ5 lQ6 lR lR1 lR2 lR3 lR4 lR5 lR6
  generalize (((((((w21.alloc (.cells #[.string a.name, .slice aa a.args.length ca, .string c.name, .slice ac c.args.length cc] 28)).alloc (.cells #[.string b.name, .slice ab b.args.length cb, .string c.name, .slice ac c.args.length cc] 28)).alloc (.cells #[.string c.name, .slice ac c.args.length cc, .string a.name, .slice aa a.args.length ca] 28)).alloc (.cells #[.string c.name, .slice ac c.args.length cc, .string b.name, .slice ab b.args.length cb] 28)).alloc (.cells #[.string a.name, .slice aa a.args.length ca] 28)).alloc (.cells #[.string b.name, .slice ab b.args.length cb] 28)).alloc (.cells #[.string ⟨#[102]⟩, .slice (some ⟨w21.heap.size, 0, none⟩) 2 2, .string ⟨#[102]⟩, .slice (some ⟨w21.heap.size + 1, 0, none⟩) 2 2, .string ⟨#[103]⟩, .slice (some ⟨w21.heap.size + 1 + 1, 0, none⟩) 2 2, .string ⟨#[103]⟩, .slice (some ⟨w21.heap.size + 1 + 1 + 1, 0, none⟩) 2 2, .string ⟨#[104]⟩, .slice (some ⟨w21.heap.size + 1 + 1 + 1 + 1, 0, none⟩) 1 1, .string ⟨#[104]⟩, .slice (some ⟨w21.heap.size + 1 + 1 + 1 + 1 + 1, 0, none⟩) 1 1] 28)) = w27 at *
  generalize w21.heap.size + 1 + 1 + 1 + 1 + 1 + 1 = BB at *
  generalize w21.heap.size + 1 + 1 + 1 + 1 + 1 = N5 at *
  generalize w21.heap.size + 1 + 1 + 1 + 1 = N4 at *
  generalize w21.heap.size + 1 + 1 + 1 = N3 at *
  generalize w21.heap.size + 1 + 1 = N2 at *
  generalize w21.heap.size + 1 = N1 at *
  generalize w21.heap.size = N0 at *
  go_wp2_with fail
  refine (pick_any _ 3 (by decide) (by decide) hy3 _).mono ?_
  rintro e w2 ⟨m, rfl, hm, hw2⟩
  rw [hw2]
  clear hw2 w2
  obtain ⟨zh, hzh⟩ : ∃ z : Bool, z = pathB row (ctxT m a c) (ctxT m b c) := ⟨_, rfl⟩
  have F5 : Hid (zab = true → zh = true) := fun h => by rw [hzh]; exact ctx_path m c (by rw [← F3.out]; exact h)
  have HZH := hide hzh
  clear hzh
  have M1 : Hid (mayE (ctxT m a c) = 0) := ctx_may m Ea.out Ec.out (by have := Za.out; omega) (by have := Zc.out; omega)
  have M2 : Hid (mayE (ctxT m b c) = 0) := ctx_may m Eb.out Ec.out (by have := Zb.out; omega) (by have := Zc.out; omega)
  go_upto_region 28 with fail
  go_cut [35, 17] (fun h f wc => h = .bool zh ∧ f = .int .i64 0 ∧ Evr (TpPath row vr a b c aa ab ac ca cb cc P Q R w) wc)
  case first =>
    have A27d : Hid (Evr (CtxW (TpPath row vr a b c aa ab ac ca cb cc P Q R w) a b c N0 N1 N2 N3 N4 N5 BB) w27.drew) := A27.out.later (below_drewN (Below.refl _ _) 1)
    clear A27
    obtain rfl | rfl | rfl : m = 0 ∨ m = 1 ∨ m = 2 := by omega
    · have wr1 : IntKind.i64.wrap 1 = 1 := by decide
      refine wp_region_held_drew (S := CtxW (TpPath row vr a b c aa ab ac ca cb cc P Q R w) a b c N0 N1 N2 N3 N4 N5 BB) (by kernel_rfl) A27d.out.now (fun hHeld => ?_)
      refine wpAnyH_take (i := 0) (v := ?_) rfl (by kernel_rfl) (by kernel_rfl) (by kernel_rfl) (fun _ _ _ h => h) (Or.inl ⟨by rfl, ?_⟩) (by assumption) ?_
      rotate_left
      · intro w' hSw
        go_simp <;> with_reducible rfl
      try simp only [Act.put, List.setIfInBounds_toArray, List.set_cons_zero, List.set_cons_succ, List.getElem_toArray, List.getElem_cons_succ, List.getElem_cons_zero]
      refine wpAnyH_take (i := 1) (v := ?_) rfl (by kernel_rfl) (by kernel_rfl) (by kernel_rfl) (fun _ _ _ h => h) (Or.inl ⟨by rfl, ?_⟩) (by assumption) ?_
      rotate_left
      · intro w' hSw
        go_simp <;> with_reducible rfl
      try simp only [Act.put, List.setIfInBounds_toArray, List.set_cons_zero, List.set_cons_succ, List.getElem_toArray, List.getElem_cons_succ, List.getElem_cons_zero]
      refine wpAnyH_take (i := 2) (v := ?_) rfl (by kernel_rfl) (by kernel_rfl) (by kernel_rfl) (fun _ _ _ h => h) (Or.inl ⟨by rfl, ?_⟩) (by assumption) ?_
      rotate_left
      · intro w' hSw
        go_simp <;> with_reducible rfl
      try simp only [Act.put, List.setIfInBounds_toArray, List.set_cons_zero, List.set_cons_succ, List.getElem_toArray, List.getElem_cons_succ, List.getElem_cons_zero]
      refine wpAnyH_take (i := 3) (v := ?_) rfl (by kernel_rfl) (by kernel_rfl) (by kernel_rfl) (fun _ _ _ h => h) (Or.inl ⟨by rfl, ?_⟩) (by assumption) ?_
      rotate_left
      · intro w' hSw
        go_simp <;> with_reducible rfl
      try simp only [Act.put, List.setIfInBounds_toArray, List.set_cons_zero, List.set_cons_succ, List.getElem_toArray, List.getElem_cons_succ, List.getElem_cons_zero]
      refine wpAnyH_take (i := 4) (v := ?_) rfl (by kernel_rfl) (by kernel_rfl) (by kernel_rfl) (fun _ _ _ h => h) (Or.inl ⟨by rfl, ?_⟩) (by assumption) ?_
      rotate_left
      · intro w' hSw
        have c0 : w'.cell? ⟨BB, 0, none⟩ = some (.string ⟨#[102]⟩) := hSw.k.cell 0
        have c1 : w'.cell? ⟨BB, 1, none⟩ = some (.slice (some ⟨N0, 0, none⟩) 2 2) := hSw.k.cell 1
        have c2 : w'.cell? ⟨BB, 2, none⟩ = some (.string ⟨#[102]⟩) := hSw.k.cell 2
        have c3 : w'.cell? ⟨BB, 3, none⟩ = some (.slice (some ⟨N1, 0, none⟩) 2 2) := hSw.k.cell 3
        go_simp <;> with_reducible rfl
      try simp only [Act.put, List.setIfInBounds_toArray, List.set_cons_zero, List.set_cons_succ, List.getElem_toArray, List.getElem_cons_succ, List.getElem_cons_zero]
      refine wpAnyH_take (i := 5) (v := ?_) rfl (by kernel_rfl) (by kernel_rfl) (by kernel_rfl) (fun _ _ _ h => h) (Or.inl ⟨by rfl, ?_⟩) (by assumption) ?_
      rotate_left
      · intro w' hSw
        go_simp <;> with_reducible rfl
      try simp only [Act.put, List.setIfInBounds_toArray, List.set_cons_zero, List.set_cons_succ, List.getElem_toArray, List.getElem_cons_succ, List.getElem_cons_zero]
      refine wpAnyH_take (i := 6) (v := ?_) rfl (by kernel_rfl) (by kernel_rfl) (by kernel_rfl) (fun _ _ _ h => h) (Or.inl ⟨by rfl, ?_⟩) (by assumption) ?_
      rotate_left
      · intro w' hSw
        go_simp <;> with_reducible rfl
      try simp only [Act.put, List.setIfInBounds_toArray, List.set_cons_zero, List.set_cons_succ, List.getElem_toArray, List.getElem_cons_succ, List.getElem_cons_zero]
      refine wpAnyH_take (i := 7) (v := ?_) rfl (by kernel_rfl) (by kernel_rfl) (by kernel_rfl) (fun _ _ _ h => h) (Or.inl ⟨by rfl, ?_⟩) (by assumption) ?_
      rotate_left
      · intro w' hSw
        go_simp <;> with_reducible rfl
      try simp only [Act.put, List.setIfInBounds_toArray, List.set_cons_zero, List.set_cons_succ, List.getElem_toArray, List.getElem_cons_succ, List.getElem_cons_zero]
      refine wpAnyH_take (i := 8) (v := ?_) rfl (by kernel_rfl) (by kernel_rfl) (by kernel_rfl) (fun _ _ _ h => h) (Or.inl ⟨by rfl, ?_⟩) (by assumption) ?_
      rotate_left
      · intro w' hSw
        go_simp <;> with_reducible rfl
      try simp only [Act.put, List.setIfInBounds_toArray, List.set_cons_zero, List.set_cons_succ, List.getElem_toArray, List.getElem_cons_succ, List.getElem_cons_zero]
      refine wpAnyH_take (i := 9) (v := ?_) rfl (by kernel_rfl) (by kernel_rfl) (by kernel_rfl) (fun _ _ _ h => h) (Or.inl ⟨by rfl, ?_⟩) (by assumption) ?_
      rotate_left
      · intro w' hSw
        have c0 : w'.cell? ⟨BB, 0, none⟩ = some (.string ⟨#[102]⟩) := hSw.k.cell 0
        have c1 : w'.cell? ⟨BB, 1, none⟩ = some (.slice (some ⟨N0, 0, none⟩) 2 2) := hSw.k.cell 1
        have c2 : w'.cell? ⟨BB, 2, none⟩ = some (.string ⟨#[102]⟩) := hSw.k.cell 2
        have c3 : w'.cell? ⟨BB, 3, none⟩ = some (.slice (some ⟨N1, 0, none⟩) 2 2) := hSw.k.cell 3
        go_simp <;> with_reducible rfl
      try simp only [Act.put, List.setIfInBounds_toArray, List.set_cons_zero, List.set_cons_succ, List.getElem_toArray, List.getElem_cons_succ, List.getElem_cons_zero]
      generalize w27.drew = wd at *
      refine wpAnyH_ready (rs := [10]) (by kernel_rfl) (by simp) ?_
      refine AllReadyH.cons rfl (fun K hK => ?_) AllReadyH.nil
      go_simp
      go_at_call 7
      refine (path_good HRO.out M1.out M2.out zh HZH.out _ _ _ _ _ _ (by exact A27d.out.now.st.rw) (by exact A27d.out.now.s0) (by exact A27d.out.now.s1)).mono ?_
      rintro e w28 ⟨rfl, hb⟩
      have A28 := hide (A27d.out.later hb)
      clear hb
      go_simp
      refine hK.out _ _ (by exact A28.out.now) (fun hHeld => ?_)
      clear hK K
      try simp only [Act.put, List.setIfInBounds_toArray, List.set_cons_zero, List.set_cons_succ, List.getElem_toArray, List.getElem_cons_succ, List.getElem_cons_zero]
      refine wpAnyH_take (i := 11) (v := ?_) rfl (by kernel_rfl) (by kernel_rfl) (by kernel_rfl) (fun _ _ _ h => h) (Or.inl ⟨by rfl, ?_⟩) (by assumption) ?_
      rotate_left
      · intro w' hSw
        go_simp <;> with_reducible rfl
      try simp only [Act.put, List.setIfInBounds_toArray, List.set_cons_zero, List.set_cons_succ, List.getElem_toArray, List.getElem_cons_succ, List.getElem_cons_zero]
      refine wpAnyH_take (i := 12) (v := ?_) rfl (by kernel_rfl) (by kernel_rfl) (by kernel_rfl) (fun _ _ _ h => h) (Or.inl ⟨by rfl, ?_⟩) (by assumption) ?_
      rotate_left
      · intro w' hSw
        go_simp <;> with_reducible rfl
      try simp only [Act.put, List.setIfInBounds_toArray, List.set_cons_zero, List.set_cons_succ, List.getElem_toArray, List.getElem_cons_succ, List.getElem_cons_zero]
      refine wpAnyH_take (i := 13) (v := ?_) rfl (by kernel_rfl) (by kernel_rfl) (by kernel_rfl) (fun _ _ _ h => h) (Or.inl ⟨by rfl, ?_⟩) (by assumption) ?_
      rotate_left
      · intro w' hSw
        go_simp <;> with_reducible rfl
      try simp only [Act.put, List.setIfInBounds_toArray, List.set_cons_zero, List.set_cons_succ, List.getElem_toArray, List.getElem_cons_succ, List.getElem_cons_zero]
      refine wpAnyH_take (i := 14) (v := ?_) rfl (by kernel_rfl) (by kernel_rfl) (by kernel_rfl) (fun _ _ _ h => h) (Or.inl ⟨by rfl, ?_⟩) (by assumption) ?_
      rotate_left
      · intro w' hSw
        go_simp <;> with_reducible rfl
      try simp only [Act.put, List.setIfInBounds_toArray, List.set_cons_zero, List.set_cons_succ, List.getElem_toArray, List.getElem_cons_succ, List.getElem_cons_zero]
      refine wpAnyH_take (i := 15) (v := ?_) rfl (by kernel_rfl) (by kernel_rfl) (by kernel_rfl) (fun _ _ _ h => h) (Or.inl ⟨by rfl, ?_⟩) (by assumption) ?_
      rotate_left
      · intro w' hSw
        go_simp <;> with_reducible rfl
      try simp only [Act.put, List.setIfInBounds_toArray, List.set_cons_zero, List.set_cons_succ, List.getElem_toArray, List.getElem_cons_succ, List.getElem_cons_zero]
      refine wpAnyH_done (by kernel_rfl) ?_ _
      go_wp2_with fail
      go_meet
      exact ⟨rfl, rfl, A28.out.imp fun _ h => h.st⟩
    · have wr1 : IntKind.i64.wrap 3 = 3 := by decide
      refine wp_region_held_drew (S := CtxW (TpPath row vr a b c aa ab ac ca cb cc P Q R w) a b c N0 N1 N2 N3 N4 N5 BB) (by kernel_rfl) A27d.out.now (fun hHeld => ?_)
      refine wpAnyH_take (i := 0) (v := ?_) rfl (by kernel_rfl) (by kernel_rfl) (by kernel_rfl) (fun _ _ _ h => h) (Or.inl ⟨by rfl, ?_⟩) (by assumption) ?_
      rotate_left
      · intro w' hSw
        go_simp <;> with_reducible rfl
      try simp only [Act.put, List.setIfInBounds_toArray, List.set_cons_zero, List.set_cons_succ, List.getElem_toArray, List.getElem_cons_succ, List.getElem_cons_zero]
      refine wpAnyH_take (i := 1) (v := ?_) rfl (by kernel_rfl) (by kernel_rfl) (by kernel_rfl) (fun _ _ _ h => h) (Or.inl ⟨by rfl, ?_⟩) (by assumption) ?_
      rotate_left
      · intro w' hSw
        go_simp <;> with_reducible rfl
      try simp only [Act.put, List.setIfInBounds_toArray, List.set_cons_zero, List.set_cons_succ, List.getElem_toArray, List.getElem_cons_succ, List.getElem_cons_zero]
      refine wpAnyH_take (i := 2) (v := ?_) rfl (by kernel_rfl) (by kernel_rfl) (by kernel_rfl) (fun _ _ _ h => h) (Or.inl ⟨by rfl, ?_⟩) (by assumption) ?_
      rotate_left
      · intro w' hSw
        go_simp <;> with_reducible rfl
      try simp only [Act.put, List.setIfInBounds_toArray, List.set_cons_zero, List.set_cons_succ, List.getElem_toArray, List.getElem_cons_succ, List.getElem_cons_zero]
      refine wpAnyH_take (i := 3) (v := ?_) rfl (by kernel_rfl) (by kernel_rfl) (by kernel_rfl) (fun _ _ _ h => h) (Or.inl ⟨by rfl, ?_⟩) (by assumption) ?_
      rotate_left
      · intro w' hSw
        go_simp <;> with_reducible rfl
      try simp only [Act.put, List.setIfInBounds_toArray, List.set_cons_zero, List.set_cons_succ, List.getElem_toArray, List.getElem_cons_succ, List.getElem_cons_zero]
      refine wpAnyH_take (i := 4) (v := ?_) rfl (by kernel_rfl) (by kernel_rfl) (by kernel_rfl) (fun _ _ _ h => h) (Or.inl ⟨by rfl, ?_⟩) (by assumption) ?_
      rotate_left
      · intro w' hSw
        have c4 : w'.cell? ⟨BB, 4, none⟩ = some (.string ⟨#[103]⟩) := hSw.k.cell 4
        have c5 : w'.cell? ⟨BB, 5, none⟩ = some (.slice (some ⟨N2, 0, none⟩) 2 2) := hSw.k.cell 5
        have c6 : w'.cell? ⟨BB, 6, none⟩ = some (.string ⟨#[103]⟩) := hSw.k.cell 6
        have c7 : w'.cell? ⟨BB, 7, none⟩ = some (.slice (some ⟨N3, 0, none⟩) 2 2) := hSw.k.cell 7
        go_simp <;> with_reducible rfl
      try simp only [Act.put, List.setIfInBounds_toArray, List.set_cons_zero, List.set_cons_succ, List.getElem_toArray, List.getElem_cons_succ, List.getElem_cons_zero]
      refine wpAnyH_take (i := 5) (v := ?_) rfl (by kernel_rfl) (by kernel_rfl) (by kernel_rfl) (fun _ _ _ h => h) (Or.inl ⟨by rfl, ?_⟩) (by assumption) ?_
      rotate_left
      · intro w' hSw
        go_simp <;> with_reducible rfl
      try simp only [Act.put, List.setIfInBounds_toArray, List.set_cons_zero, List.set_cons_succ, List.getElem_toArray, List.getElem_cons_succ, List.getElem_cons_zero]
      refine wpAnyH_take (i := 6) (v := ?_) rfl (by kernel_rfl) (by kernel_rfl) (by kernel_rfl) (fun _ _ _ h => h) (Or.inl ⟨by rfl, ?_⟩) (by assumption) ?_
      rotate_left
      · intro w' hSw
        go_simp <;> with_reducible rfl
      try simp only [Act.put, List.setIfInBounds_toArray, List.set_cons_zero, List.set_cons_succ, List.getElem_toArray, List.getElem_cons_succ, List.getElem_cons_zero]
      refine wpAnyH_take (i := 7) (v := ?_) rfl (by kernel_rfl) (by kernel_rfl) (by kernel_rfl) (fun _ _ _ h => h) (Or.inl ⟨by rfl, ?_⟩) (by assumption) ?_
      rotate_left
      · intro w' hSw
        go_simp <;> with_reducible rfl
      try simp only [Act.put, List.setIfInBounds_toArray, List.set_cons_zero, List.set_cons_succ, List.getElem_toArray, List.getElem_cons_succ, List.getElem_cons_zero]
      refine wpAnyH_take (i := 8) (v := ?_) rfl (by kernel_rfl) (by kernel_rfl) (by kernel_rfl) (fun _ _ _ h => h) (Or.inl ⟨by rfl, ?_⟩) (by assumption) ?_
      rotate_left
      · intro w' hSw
        go_simp <;> with_reducible rfl
      try simp only [Act.put, List.setIfInBounds_toArray, List.set_cons_zero, List.set_cons_succ, List.getElem_toArray, List.getElem_cons_succ, List.getElem_cons_zero]
      refine wpAnyH_take (i := 9) (v := ?_) rfl (by kernel_rfl) (by kernel_rfl) (by kernel_rfl) (fun _ _ _ h => h) (Or.inl ⟨by rfl, ?_⟩) (by assumption) ?_
      rotate_left
      · intro w' hSw
        have c4 : w'.cell? ⟨BB, 4, none⟩ = some (.string ⟨#[103]⟩) := hSw.k.cell 4
        have c5 : w'.cell? ⟨BB, 5, none⟩ = some (.slice (some ⟨N2, 0, none⟩) 2 2) := hSw.k.cell 5
        have c6 : w'.cell? ⟨BB, 6, none⟩ = some (.string ⟨#[103]⟩) := hSw.k.cell 6
        have c7 : w'.cell? ⟨BB, 7, none⟩ = some (.slice (some ⟨N3, 0, none⟩) 2 2) := hSw.k.cell 7
        go_simp <;> with_reducible rfl
      try simp only [Act.put, List.setIfInBounds_toArray, List.set_cons_zero, List.set_cons_succ, List.getElem_toArray, List.getElem_cons_succ, List.getElem_cons_zero]
      generalize w27.drew = wd at *
      refine wpAnyH_ready (rs := [10]) (by kernel_rfl) (by simp) ?_
      refine AllReadyH.cons rfl (fun K hK => ?_) AllReadyH.nil
      go_simp
      go_at_call 7
      refine (path_good HRO.out M1.out M2.out zh HZH.out _ _ _ _ _ _ (by exact A27d.out.now.st.rw) (by exact A27d.out.now.s2) (by exact A27d.out.now.s3)).mono ?_
      rintro e w28 ⟨rfl, hb⟩
      have A28 := hide (A27d.out.later hb)
      clear hb
      go_simp
      refine hK.out _ _ (by exact A28.out.now) (fun hHeld => ?_)
      clear hK K
      try simp only [Act.put, List.setIfInBounds_toArray, List.set_cons_zero, List.set_cons_succ, List.getElem_toArray, List.getElem_cons_succ, List.getElem_cons_zero]
      refine wpAnyH_take (i := 11) (v := ?_) rfl (by kernel_rfl) (by kernel_rfl) (by kernel_rfl) (fun _ _ _ h => h) (Or.inl ⟨by rfl, ?_⟩) (by assumption) ?_
      rotate_left
      · intro w' hSw
        go_simp <;> with_reducible rfl
      try simp only [Act.put, List.setIfInBounds_toArray, List.set_cons_zero, List.set_cons_succ, List.getElem_toArray, List.getElem_cons_succ, List.getElem_cons_zero]
      refine wpAnyH_take (i := 12) (v := ?_) rfl (by kernel_rfl) (by kernel_rfl) (by kernel_rfl) (fun _ _ _ h => h) (Or.inl ⟨by rfl, ?_⟩) (by assumption) ?_
      rotate_left
      · intro w' hSw
        go_simp <;> with_reducible rfl
      try simp only [Act.put, List.setIfInBounds_toArray, List.set_cons_zero, List.set_cons_succ, List.getElem_toArray, List.getElem_cons_succ, List.getElem_cons_zero]
      refine wpAnyH_take (i := 13) (v := ?_) rfl (by kernel_rfl) (by kernel_rfl) (by kernel_rfl) (fun _ _ _ h => h) (Or.inl ⟨by rfl, ?_⟩) (by assumption) ?_
      rotate_left
      · intro w' hSw
        go_simp <;> with_reducible rfl
      try simp only [Act.put, List.setIfInBounds_toArray, List.set_cons_zero, List.set_cons_succ, List.getElem_toArray, List.getElem_cons_succ, List.getElem_cons_zero]
      refine wpAnyH_take (i := 14) (v := ?_) rfl (by kernel_rfl) (by kernel_rfl) (by kernel_rfl) (fun _ _ _ h => h) (Or.inl ⟨by rfl, ?_⟩) (by assumption) ?_
      rotate_left
      · intro w' hSw
        go_simp <;> with_reducible rfl
      try simp only [Act.put, List.setIfInBounds_toArray, List.set_cons_zero, List.set_cons_succ, List.getElem_toArray, List.getElem_cons_succ, List.getElem_cons_zero]
      refine wpAnyH_take (i := 15) (v := ?_) rfl (by kernel_rfl) (by kernel_rfl) (by kernel_rfl) (fun _ _ _ h => h) (Or.inl ⟨by rfl, ?_⟩) (by assumption) ?_
      rotate_left
      · intro w' hSw
        go_simp <;> with_reducible rfl
      try simp only [Act.put, List.setIfInBounds_toArray, List.set_cons_zero, List.set_cons_succ, List.getElem_toArray, List.getElem_cons_succ, List.getElem_cons_zero]
      refine wpAnyH_done (by kernel_rfl) ?_ _
      go_wp2_with fail
      go_meet
      exact ⟨rfl, rfl, A28.out.imp fun _ h => h.st⟩
    · have wr1 : IntKind.i64.wrap 5 = 5 := by decide
      refine wp_region_held_drew (S := CtxW (TpPath row vr a b c aa ab ac ca cb cc P Q R w) a b c N0 N1 N2 N3 N4 N5 BB) (by kernel_rfl) A27d.out.now (fun hHeld => ?_)
      refine wpAnyH_take (i := 0) (v := ?_) rfl (by kernel_rfl) (by kernel_rfl) (by kernel_rfl) (fun _ _ _ h => h) (Or.inl ⟨by rfl, ?_⟩) (by assumption) ?_
      rotate_left
      · intro w' hSw
        go_simp <;> with_reducible rfl
      try simp only [Act.put, List.setIfInBounds_toArray, List.set_cons_zero, List.set_cons_succ, List.getElem_toArray, List.getElem_cons_succ, List.getElem_cons_zero]
      refine wpAnyH_take (i := 1) (v := ?_) rfl (by kernel_rfl) (by kernel_rfl) (by kernel_rfl) (fun _ _ _ h => h) (Or.inl ⟨by rfl, ?_⟩) (by assumption) ?_
      rotate_left
      · intro w' hSw
        go_simp <;> with_reducible rfl
      try simp only [Act.put, List.setIfInBounds_toArray, List.set_cons_zero, List.set_cons_succ, List.getElem_toArray, List.getElem_cons_succ, List.getElem_cons_zero]
      refine wpAnyH_take (i := 2) (v := ?_) rfl (by kernel_rfl) (by kernel_rfl) (by kernel_rfl) (fun _ _ _ h => h) (Or.inl ⟨by rfl, ?_⟩) (by assumption) ?_
      rotate_left
      · intro w' hSw
        go_simp <;> with_reducible rfl
      try simp only [Act.put, List.setIfInBounds_toArray, List.set_cons_zero, List.set_cons_succ, List.getElem_toArray, List.getElem_cons_succ, List.getElem_cons_zero]
      refine wpAnyH_take (i := 3) (v := ?_) rfl (by kernel_rfl) (by kernel_rfl) (by kernel_rfl) (fun _ _ _ h => h) (Or.inl ⟨by rfl, ?_⟩) (by assumption) ?_
      rotate_left
      · intro w' hSw
        go_simp <;> with_reducible rfl
      try simp only [Act.put, List.setIfInBounds_toArray, List.set_cons_zero, List.set_cons_succ, List.getElem_toArray, List.getElem_cons_succ, List.getElem_cons_zero]
      refine wpAnyH_take (i := 4) (v := ?_) rfl (by kernel_rfl) (by kernel_rfl) (by kernel_rfl) (fun _ _ _ h => h) (Or.inl ⟨by rfl, ?_⟩) (by assumption) ?_
      rotate_left
      · intro w' hSw
        have c8 : w'.cell? ⟨BB, 8, none⟩ = some (.string ⟨#[104]⟩) := hSw.k.cell 8
        have c9 : w'.cell? ⟨BB, 9, none⟩ = some (.slice (some ⟨N4, 0, none⟩) 1 1) := hSw.k.cell 9
        have c10 : w'.cell? ⟨BB, 10, none⟩ = some (.string ⟨#[104]⟩) := hSw.k.cell 10
        have c11 : w'.cell? ⟨BB, 11, none⟩ = some (.slice (some ⟨N5, 0, none⟩) 1 1) := hSw.k.cell 11
        go_simp <;> with_reducible rfl
      try simp only [Act.put, List.setIfInBounds_toArray, List.set_cons_zero, List.set_cons_succ, List.getElem_toArray, List.getElem_cons_succ, List.getElem_cons_zero]
      refine wpAnyH_take (i := 5) (v := ?_) rfl (by kernel_rfl) (by kernel_rfl) (by kernel_rfl) (fun _ _ _ h => h) (Or.inl ⟨by rfl, ?_⟩) (by assumption) ?_
      rotate_left
      · intro w' hSw
        go_simp <;> with_reducible rfl
      try simp only [Act.put, List.setIfInBounds_toArray, List.set_cons_zero, List.set_cons_succ, List.getElem_toArray, List.getElem_cons_succ, List.getElem_cons_zero]
      refine wpAnyH_take (i := 6) (v := ?_) rfl (by kernel_rfl) (by kernel_rfl) (by kernel_rfl) (fun _ _ _ h => h) (Or.inl ⟨by rfl, ?_⟩) (by assumption) ?_
      rotate_left
      · intro w' hSw
        go_simp <;> with_reducible rfl
      try simp only [Act.put, List.setIfInBounds_toArray, List.set_cons_zero, List.set_cons_succ, List.getElem_toArray, List.getElem_cons_succ, List.getElem_cons_zero]
      refine wpAnyH_take (i := 7) (v := ?_) rfl (by kernel_rfl) (by kernel_rfl) (by kernel_rfl) (fun _ _ _ h => h) (Or.inl ⟨by rfl, ?_⟩) (by assumption) ?_
      rotate_left
      · intro w' hSw
        go_simp <;> with_reducible rfl
      try simp only [Act.put, List.setIfInBounds_toArray, List.set_cons_zero, List.set_cons_succ, List.getElem_toArray, List.getElem_cons_succ, List.getElem_cons_zero]
      refine wpAnyH_take (i := 8) (v := ?_) rfl (by kernel_rfl) (by kernel_rfl) (by kernel_rfl) (fun _ _ _ h => h) (Or.inl ⟨by rfl, ?_⟩) (by assumption) ?_
      rotate_left
      · intro w' hSw
        go_simp <;> with_reducible rfl
      try simp only [Act.put, List.setIfInBounds_toArray, List.set_cons_zero, List.set_cons_succ, List.getElem_toArray, List.getElem_cons_succ, List.getElem_cons_zero]
      refine wpAnyH_take (i := 9) (v := ?_) rfl (by kernel_rfl) (by kernel_rfl) (by kernel_rfl) (fun _ _ _ h => h) (Or.inl ⟨by rfl, ?_⟩) (by assumption) ?_
      rotate_left
      · intro w' hSw
        have c8 : w'.cell? ⟨BB, 8, none⟩ = some (.string ⟨#[104]⟩) := hSw.k.cell 8
        have c9 : w'.cell? ⟨BB, 9, none⟩ = some (.slice (some ⟨N4, 0, none⟩) 1 1) := hSw.k.cell 9
        have c10 : w'.cell? ⟨BB, 10, none⟩ = some (.string ⟨#[104]⟩) := hSw.k.cell 10
        have c11 : w'.cell? ⟨BB, 11, none⟩ = some (.slice (some ⟨N5, 0, none⟩) 1 1) := hSw.k.cell 11
        go_simp <;> with_reducible rfl
      try simp only [Act.put, List.setIfInBounds_toArray, List.set_cons_zero, List.set_cons_succ, List.getElem_toArray, List.getElem_cons_succ, List.getElem_cons_zero]
      generalize w27.drew = wd at *
      refine wpAnyH_ready (rs := [10]) (by kernel_rfl) (by simp) ?_
      refine AllReadyH.cons rfl (fun K hK => ?_) AllReadyH.nil
      go_simp
      go_at_call 7
      refine (path_good HRO.out M1.out M2.out zh HZH.out _ _ _ _ _ _ (by exact A27d.out.now.st.rw) (by exact A27d.out.now.s4) (by exact A27d.out.now.s5)).mono ?_
      rintro e w28 ⟨rfl, hb⟩
      have A28 := hide (A27d.out.later hb)
      clear hb
      go_simp
      refine hK.out _ _ (by exact A28.out.now) (fun hHeld => ?_)
      clear hK K
      try simp only [Act.put, List.setIfInBounds_toArray, List.set_cons_zero, List.set_cons_succ, List.getElem_toArray, List.getElem_cons_succ, List.getElem_cons_zero]
      refine wpAnyH_take (i := 11) (v := ?_) rfl (by kernel_rfl) (by kernel_rfl) (by kernel_rfl) (fun _ _ _ h => h) (Or.inl ⟨by rfl, ?_⟩) (by assumption) ?_
      rotate_left
      · intro w' hSw
        go_simp <;> with_reducible rfl
      try simp only [Act.put, List.setIfInBounds_toArray, List.set_cons_zero, List.set_cons_succ, List.getElem_toArray, List.getElem_cons_succ, List.getElem_cons_zero]
      refine wpAnyH_take (i := 12) (v := ?_) rfl (by kernel_rfl) (by kernel_rfl) (by kernel_rfl) (fun _ _ _ h => h) (Or.inl ⟨by rfl, ?_⟩) (by assumption) ?_
      rotate_left
      · intro w' hSw
        go_simp <;> with_reducible rfl
      try simp only [Act.put, List.setIfInBounds_toArray, List.set_cons_zero, List.set_cons_succ, List.getElem_toArray, List.getElem_cons_succ, List.getElem_cons_zero]
      refine wpAnyH_take (i := 13) (v := ?_) rfl (by kernel_rfl) (by kernel_rfl) (by kernel_rfl) (fun _ _ _ h => h) (Or.inl ⟨by rfl, ?_⟩) (by assumption) ?_
      rotate_left
      · intro w' hSw
        go_simp <;> with_reducible rfl
      try simp only [Act.put, List.setIfInBounds_toArray, List.set_cons_zero, List.set_cons_succ, List.getElem_toArray, List.getElem_cons_succ, List.getElem_cons_zero]
      refine wpAnyH_take (i := 14) (v := ?_) rfl (by kernel_rfl) (by kernel_rfl) (by kernel_rfl) (fun _ _ _ h => h) (Or.inl ⟨by rfl, ?_⟩) (by assumption) ?_
      rotate_left
      · intro w' hSw
        go_simp <;> with_reducible rfl
      try simp only [Act.put, List.setIfInBounds_toArray, List.set_cons_zero, List.set_cons_succ, List.getElem_toArray, List.getElem_cons_succ, List.getElem_cons_zero]
      refine wpAnyH_take (i := 15) (v := ?_) rfl (by kernel_rfl) (by kernel_rfl) (by kernel_rfl) (fun _ _ _ h => h) (Or.inl ⟨by rfl, ?_⟩) (by assumption) ?_
      rotate_left
      · intro w' hSw
        go_simp <;> with_reducible rfl
      try simp only [Act.put, List.setIfInBounds_toArray, List.set_cons_zero, List.set_cons_succ, List.getElem_toArray, List.getElem_cons_succ, List.getElem_cons_zero]
      refine wpAnyH_done (by kernel_rfl) ?_ _
      go_wp2_with fail
      go_meet
      exact ⟨rfl, rfl, A28.out.imp fun _ h => h.st⟩
  obtain ⟨rfl, rfl, hev⟩ := hcut
  have A28 := hide hev
  clear hev A27 M1 M2 HZH
  go_step
  exact topPathE zs hr hzl y3 hy3 au cu w _ X HU n HN row HRO vr a b c aa ab ac ca cb cc P Q R zab zxy zh F4 F5 A28
#print axioms topPathC
end Go.Proofs.Ytmgggmlgmpfedaa
