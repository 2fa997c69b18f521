import Derived.Test.YtlkeafenklamjaaGreatDoorOv7
import Derived.Test.YtlkeafenklamjaaGreatDoorW120
namespace Go.Proofs.YtlkeafenklamjaaGreatDoor
set_option linter.all false
set_option maxRecDepth 20000
set_option maxHeartbeats 8000000
open Go.RowKit Go.Shelf
attribute [local go_sem] GJ
def M4 (Q:Exit->Act->World->Prop):Exit->Act->World->Prop
  | .normal,a,w=>Q .normal a w
  |_,_,_=>False
theorem ZI {P:Program} {c:Code} {Q:Exit->Act->World->Prop} {a:Act} {w:World} (h:c.wp P (M4 Q) a w):c.wp P Q a w:=
  Code.wp_mono (λe a w q=>by cases e<;>first|exact q|exact q.elim) h
theorem ZJ {zs:List Int}:∀ {t x:Tm},AR t zs=some x->Ab [x]<=Ab [t]:=by
  induction zs with
  |nil=>intro t x h; simp only[AR,GH] at h; subst h; exact Aj _
  |cons z zs ih=>
    intro t x h
    simp only[AR] at h
    split at h
    · rename_i hh
      have h1:=ih h
      have h2:=C4 t.args z.toNat hh.2
      have h3:=C5 t.args (z.toNat+1)
      obtain⟨s,l⟩:=t
      have:Ab [(⟨s,l⟩:Tm)]=1+Ab l:=by simp[Ab]
      simp only at *
      omega
    · cases h
theorem Sb {t x:Tm} {p:List Int} (h:Ay t=0) (hp:AR t p=some x):Ay x=0:=by
  have h1:=OL p t x (Dy h) hp
  have h2:=ZJ hp
  have h3:=CC h
  unfold Ay
  rw[An (by omega)]
  exact h1
theorem Sc {x y:Tm} (hx:Ay x=0) (hy:Ay y=0):Ck [⟨x,y⟩]=0:=by
  unfold Ck
  simp[El,CA,hx,hy]
def Sd (oa nb:Pr) (W:World) (o:Value) (w':World):Prop:=
  ∃B x y b1 d1 b2 d2 b3 d3 b4 d4,o=.pointer (some ⟨B,0,none⟩)/\W.heap.size<=B/\(x,y)=Av oa nb/\Ac w' B #[.string x.l.name,.slice b1 x.l.args.length d1,.string x.r.name,.slice b2 x.r.args.length d2,.string y.l.name,.slice b3 y.l.args.length d3,.string y.r.name,.slice b4 y.r.args.length d4] 66/\Below W.heap.size W w'/\Sl w' (λb=>W.heap.size<=b/\b≠B) b1 x.l.args/\Sl w' (λb=>W.heap.size<=b/\b≠B) b2 x.r.args/\Sl w' (λb=>W.heap.size<=b/\b≠B) b3 y.l.args/\Sl w' (λb=>W.heap.size<=b/\b≠B) b4 y.r.args
theorem Se {oa nb:Pr} {W wz:World} {B:Nat} {x y:Pr} {b1 b2 b3 b4:Option Addr} {d1 d2 d3 d4:Nat} (hB:W.heap.size<=B) (he:(x,y)=Av oa nb) (h:Ac wz B #[.string ⟨#[]⟩,.slice none 0 0,.string ⟨#[]⟩,.slice none 0 0,.string ⟨#[]⟩,.slice none 0 0,.string ⟨#[]⟩,.slice none 0 0] 66) (hb:Below W.heap.size W wz) (h1:Sl wz (λb=>W.heap.size<=b/\b≠B) b1 x.l.args) (h2:Sl wz (λb=>W.heap.size<=b/\b≠B) b2 x.r.args) (h3:Sl wz (λb=>W.heap.size<=b/\b≠B) b3 y.l.args) (h4:Sl wz (λb=>W.heap.size<=b/\b≠B) b4 y.r.args):
    Below W.heap.size W ((((((((wz.setCell ⟨B,0,none⟩ (.string x.l.name)).setCell ⟨B,1,none⟩ (.slice b1 x.l.args.length d1)).setCell ⟨B,2,none⟩ (.string x.r.name)).setCell ⟨B,3,none⟩ (.slice b2 x.r.args.length d2)).setCell ⟨B,4,none⟩ (.string y.l.name)).setCell ⟨B,5,none⟩ (.slice b3 y.l.args.length d3)).setCell ⟨B,6,none⟩ (.string y.r.name)).setCell ⟨B,7,none⟩ (.slice b4 y.r.args.length d4))/\Sd oa nb W (.pointer (some ⟨B,0,none⟩)) ((((((((wz.setCell ⟨B,0,none⟩ (.string x.l.name)).setCell ⟨B,1,none⟩ (.slice b1 x.l.args.length d1)).setCell ⟨B,2,none⟩ (.string x.r.name)).setCell ⟨B,3,none⟩ (.slice b2 x.r.args.length d2)).setCell ⟨B,4,none⟩ (.string y.l.name)).setCell ⟨B,5,none⟩ (.slice b3 y.l.args.length d3)).setCell ⟨B,6,none⟩ (.string y.r.name)).setCell ⟨B,7,none⟩ (.slice b4 y.r.args.length d4)):=by
  have aa:Below W.heap.size W ((((((((wz.setCell ⟨B,0,none⟩ (.string x.l.name)).setCell ⟨B,1,none⟩ (.slice b1 x.l.args.length d1)).setCell ⟨B,2,none⟩ (.string x.r.name)).setCell ⟨B,3,none⟩ (.slice b2 x.r.args.length d2)).setCell ⟨B,4,none⟩ (.string y.l.name)).setCell ⟨B,5,none⟩ (.slice b3 y.l.args.length d3)).setCell ⟨B,6,none⟩ (.string y.r.name)).setCell ⟨B,7,none⟩ (.slice b4 y.r.args.length d4)):=((((((((hb.setCell (p:=⟨B,0,none⟩) hB _).setCell (p:=⟨B,1,none⟩) hB _).setCell (p:=⟨B,2,none⟩) hB _).setCell (p:=⟨B,3,none⟩) hB _).setCell (p:=⟨B,4,none⟩) hB _).setCell (p:=⟨B,5,none⟩) hB _).setCell (p:=⟨B,6,none⟩) hB _).setCell (p:=⟨B,7,none⟩) hB _)
  have kp:∀ {a:Option Addr} {l:List Tm},Sl wz (λb=>W.heap.size<=b/\b≠B) a l->Sl ((((((((wz.setCell ⟨B,0,none⟩ (.string x.l.name)).setCell ⟨B,1,none⟩ (.slice b1 x.l.args.length d1)).setCell ⟨B,2,none⟩ (.string x.r.name)).setCell ⟨B,3,none⟩ (.slice b2 x.r.args.length d2)).setCell ⟨B,4,none⟩ (.string y.l.name)).setCell ⟨B,5,none⟩ (.slice b3 y.l.args.length d3)).setCell ⟨B,6,none⟩ (.string y.r.name)).setCell ⟨B,7,none⟩ (.slice b4 y.r.args.length d4)) (λb=>W.heap.size<=b/\b≠B) a l:=λh=>h.kept λb hb=>by
    have hne:b≠B:=hb.2
    rw[Aq _ _ _ _ (by simpa using hne),Aq _ _ _ _ (by simpa using hne),Aq _ _ _ _ (by simpa using hne),Aq _ _ _ _ (by simpa using hne),Aq _ _ _ _ (by simpa using hne),Aq _ _ _ _ (by simpa using hne),Aq _ _ _ _ (by simpa using hne),Aq _ _ _ _ (by simpa using hne)]
  exact⟨aa,B,x,y,b1,d1,b2,d2,b3,d3,b4,d4,rfl,hB,he,((((((((h.set 0 _).set 1 _).set 2 _).set 3 _).set 4 _).set 5 _).set 6 _).set 7 _),aa,kp h1,kp h2,kp h3,kp h4⟩
theorem Tb.heap {B:Nat} {w w':World} (h:Tb B w) (hs:w.heap.size<=w'.heap.size) (hk:∀b,b<B->w'.heap[b]? = w.heap[b]?):Tb B w':=λw'' h2=>by
  have h3:=h { w'' with os:=w.os,tape:=w.tape,output:=w.output} ⟨rfl,rfl,rfl,AX hs h2.size,λb hb=>(h2.block b hb).trans (hk b hb)⟩
  exact h3
theorem Sf {F:Fence} {nF:Nat} {P:Program} {ops:Array Oper} {rest:List Oper} {o:Oper} {a:Act} {Q:Exit->Act->World->Prop} {w w':World} {v u v':Value} (hgd:o.guard=none) (s x:Operand) (t t':TypeId)
    (ho:o.op=.call { callee:=.builtin .append,args:=#[s,x],argTypes:=#[t,t']}) (hs:a.eval s=v) (hx:a.eval x=u)
    (hr:(Builtin.append_ #[t,t'] o.type #[v,u]).run P w=.ok v' w') (h:wpListIn F nF P ops Q rest (a.put o.dst v') w'):wpListIn F nF P ops Q (o::rest) a w:=by
  refine wpListIn_plain hgd λK hK=>?_
  unfold Oper.wpIn
  refine⟨by simp[Oper.about,ho,resolve,Target.leads,Sem.run_pure],?_⟩
  rw[Oper.semAt_plain F _ _ (by rw[ho]; intro c hc'; cases hc')]
  simp[execOp,ho,resolve,invoke,builtin,hs,hx,hr,Result.andThen]
  exact hK _ _ h
def E9 (W1:World) (L:Nat) (rb:Loop) (V:World):Prop:=
  W1.heap.size<=V.heap.size/\(V.os=W1.os/\V.tape=W1.tape/\V.output=W1.output)/\(∀q,q<W1.heap.size->q≠L->V.heap[q]? = W1.heap[q]?)/\V.heap[L]? = some (.loop rb)
theorem E9.later {W1 V V':World} {L:Nat} {rb:Loop} (h:E9 W1 L rb V) (hb:Below V.heap.size V V'):E9 W1 L rb V':=by
  obtain⟨h1,h2,h3,h4⟩:=h
  exact⟨AX h1 hb.size,⟨hb.os.trans h2.1,hb.tape.trans h2.2.1,hb.output.trans h2.2.2⟩,λq hq hne=>(hb.block q (by omega)).trans (h3 q hq hne),(hb.block L (DM.1 h4).1).trans h4⟩
theorem E9.alloc {W1 V:World} {L:Nat} {rb:Loop} (h:E9 W1 L rb V) (o:Obj):E9 W1 L rb (V.alloc o):=h.later ((Af _ _).alloc (Aj _) o)
theorem E9.blk {W1 V:World} {L:Nat} {rb:Loop} (h:E9 W1 L rb V) {q T:Nat} {c:Array Value} (hb:Ac W1 q c T) (hne:q≠L):Ac V q c T:=(h.2.2.1 q hb.lt hne).trans hb
theorem IV {U:List Pr->Int×List Bd} {ab:Pr×Pr} {same:Bool} {K:Nat->Prop} {A R4 R5 L:Nat} {r rd rb:Loop} {W0:World} (hd:Hz A R4 R5 L W0.heap.size) {pre:List Dn} {f:Nat->Prop} {W V:World} {v:Value} {cs:List Pc} {F:Nat->Prop} (h:IU U ab same K A R4 R5 L r W0 pre true f W v cs F) (hF:E9 W L rb V) {d:Dn} (hs:Dk U ab same d):
    ((V.setCell ⟨R4,0,none⟩ (.slice none 0 0)).setCell ⟨R5,0,none⟩ (.int .i64 8)).heap[L]? = some (.loop rb)/\∃f',JO U ab same K A R4 R5 L r rd W0 (pre++[d]) false f' (((V.setCell ⟨R4,0,none⟩ (.slice none 0 0)).setCell ⟨R5,0,none⟩ (.int .i64 8)).putObj L (.loop rd))/\Al f W (((V.setCell ⟨R4,0,none⟩ (.slice none 0 0)).setCell ⟨R5,0,none⟩ (.int .i64 8)).putObj L (.loop rd))/\∀b,f' b->f b∨W.heap.size<=b:=by
  have hh:=hd
  obtain⟨d1,d2,d3,d4,d5,d6,d7,d8,d9,d10⟩:=hd
  have B4:=hF.blk h.b4 d9
  have B5:=hF.blk h.b5 d10
  refine RN (V:=((V.setCell ⟨R4,0,none⟩ (.slice none 0 0)).setCell ⟨R5,0,none⟩ (.int .i64 8))) hh h (by simp[World.setCell]; exact hF.1) hF.2.1 (λq hq h1 h2 h3=>?_) ?_ ((Ac.set1R B4).setOther _ _ d8) (Ac.set1R (B5.setOther _ _ (D6 d8))) hs
  · rw[Aq _ _ _ _ (by simpa using h3),Aq _ _ _ _ (by simpa using h2)]
    exact hF.2.2.1 q hq h1
  · rw[Aq _ _ _ _ (by simpa using D6 d10),Aq _ _ _ _ (by simpa using D6 d9)]
    exact hF.2.2.2
theorem Sg {U:List Pr->Int×List Bd} {ab:Pr×Pr} {same:Bool} {K:Nat->Prop} {A R4 R5 L:Nat} {r rd rb:Loop} {W0:World} (hd:Hz A R4 R5 L W0.heap.size) {pre:List Dn} {f:Nat->Prop} {W V:World} {v:Value} {cs:List Pc} {F:Nat->Prop} (h:IU U ab same K A R4 R5 L r W0 pre true f W v cs F) (hF:E9 W L rb V) {d:Dn} (o:Obj) (hs:Dk U ab same d):
    (((V.setCell ⟨R4,0,none⟩ (.slice none 0 0)).setCell ⟨R5,0,none⟩ (.int .i64 8)).alloc o).heap[L]? = some (.loop rb)/\∃f',JO U ab same K A R4 R5 L r rd W0 (pre++[d]) false f' ((((V.setCell ⟨R4,0,none⟩ (.slice none 0 0)).setCell ⟨R5,0,none⟩ (.int .i64 8)).alloc o).putObj L (.loop rd))/\Al f W ((((V.setCell ⟨R4,0,none⟩ (.slice none 0 0)).setCell ⟨R5,0,none⟩ (.int .i64 8)).alloc o).putObj L (.loop rd))/\∀b,f' b->f b∨W.heap.size<=b:=by
  have hh:=hd
  obtain⟨d1,d2,d3,d4,d5,d6,d7,d8,d9,d10⟩:=hd
  have B4:=hF.blk h.b4 d9
  have B5:=hF.blk h.b5 d10
  refine RN (V:=(((V.setCell ⟨R4,0,none⟩ (.slice none 0 0)).setCell ⟨R5,0,none⟩ (.int .i64 8)).alloc o)) hh h (by have:=hF.1; simp[World.setCell]; omega) hF.2.1 (λq hq h1 h2 h3=>?_) ?_ (((Ac.set1R B4).setOther _ _ d8).alloc o) ((Ac.set1R (B5.setOther _ _ (D6 d8))).alloc o) hs
  · rw[AP _ _ _ (by have:=hF.1; simp[World.setCell]; omega),Aq _ _ _ _ (by simpa using h3),Aq _ _ _ _ (by simpa using h2)]
    exact hF.2.2.1 q hq h1
  · rw[AP _ _ _ (by have:=(DM.1 hF.2.2.2).1; simp[World.setCell]; omega),Aq _ _ _ _ (by simpa using D6 d10),Aq _ _ _ _ (by simpa using D6 d9)]
    exact hF.2.2.2
def La (U:List Pr->Int×List Bd) (oa nb:Pr) (same:Bool) (w:World) (e:Ending) (w':World):Prop:=
  Below w.heap.size w w'/\(((∀d∈AM [] [] (Av oa nb).1.l,¬Dk U (Av oa nb) same d)/\∃v cs,e=.returned (.tuple #[v,.int .i64 0])/\Cx w' w.heap.size (λ_=>False) v cs/\cs.map (·.1)=IR U oa nb same)∨
    ((∃d∈AM [] [] (Av oa nb).1.l,Dk U (Av oa nb) same d)/\e=.returned (.tuple #[.slice none 0 0,.int .i64 8])))
theorem ZK (BT:Nat) (U:List Pr->Int×List Bd) (hU:∀ls,Ck ls=0->∃g,AQ false g [] ls=some (U ls)) (cL:∀ls,Ck ls=0->(U ls).1=0->Hp (U ls).2) (rs:List Pr) (i j:Nat) (hi:i<rs.length) (hj:j<rs.length) (u:Value) (w:World) (X0:Nat->Prop) (hu:QV w X0 u rs) (ho:Ay rs[i].l=0/\Ay rs[i].r=0) (hn:Ay rs[j].l=0/\Ay rs[j].r=0) (hT:Tb BT w) (cM:BT<=w.heap.size):
    Calls Tryz.prog 20 #[u,.agg #[.int .i64 (i:Int),.int .i64 (j:Int)]] w λe w'=>La U rs[i] rs[j] (decide (i=j)) w e w':=by
  have HT:=Aa hT
  have HO:=Aa ho
  have cm:=Aa hn
  have cN:=Aa hU
  have cO:=Aa cL
  obtain⟨ua,uc,dG,eu,-⟩:=id hu
  subst dG
  obtain⟨b,o,a1,c1,a2,c2,dH,p0,p1,p2,p3,s1,s2⟩:=hu.get i hi
  obtain⟨b',o',a3,c3,a4,c4,cn,p4,p5,p6,p7,s3,s4⟩:=hu.get j hj
  subst dH
  cases cn
  have cP:=Aa s1
  have cQ:=Aa s2
  have cR:=Aa s3
  have cS:=Aa s4
  have dI:b<w.heap.size:=D9 p0
  have dJ:Hid (w.cell? ⟨b,o+i*4,none⟩=some (.string rs[i].l.name)/\w.cell? ⟨b,o+i*4+1,none⟩=some (.slice a1 rs[i].l.args.length c1)/\w.cell? ⟨b,o+i*4+2,none⟩=some (.string rs[i].r.name)/\w.cell? ⟨b,o+i*4+3,none⟩=some (.slice a2 rs[i].r.args.length c2)/\w.cell? ⟨b,o+j*4,none⟩=some (.string rs[j].l.name)/\w.cell? ⟨b,o+j*4+1,none⟩=some (.slice a3 rs[j].l.args.length c3)/\w.cell? ⟨b,o+j*4+2,none⟩=some (.string rs[j].r.name)/\w.cell? ⟨b,o+j*4+3,none⟩=some (.slice a4 rs[j].r.args.length c4)):=⟨p0,p1,p2,p3,p4,p5,p6,p7⟩
  obtain⟨same,aH⟩:∃s,s=decide (i=j):=⟨_,rfl⟩
  have dK:Hid (((i:Int)==(j:Int))=same):=by unfold Hid; rw[aH,Fs]; simp; omega
  have ew:(i:Int)<(rs.length:Int):=by omega
  have ey:(j:Int)<(rs.length:Int):=by omega
  rw[<-aH]
  clear aH
  clear hT ho hn hU cL p0 p1 p2 p3 p4 p5 p6 p7 s1 s2 s3 s4 hu
  generalize rs[i]=oa at *
  generalize rs[j]=nb at *
  generalize rs.length=nr at *
  clear hi hj
  refine(DN (n:=3)).1 ?_
  refine callsIn_of_wp_marks Tryz.func20 rfl trivial ?_ rfl
  simp only[Tryz.ntmps20,List.size_toArray,Bs,EN,Nat.reduceAdd,Nat.reduceSub,Lw,Lx,List.push_toArray,Ly,DY,Cf]
  refine wpIn_wide.2 ?_
  go_upto_region 1 with fail
  have ak:Hid (Below w.heap.size w (((w.alloc (.cells #[.int .i64 (i:Int),.int .i64 (j:Int)] 47)).alloc (.cells #[.slice none 0 0] 22)).alloc (.cells #[.int .i64 0] 24))):=(((Af _ _).alloc (Aj _) _).alloc (by simp) _).alloc (by simp; omega) _
  have hz3:(((w.alloc (.cells #[.int .i64 (i:Int),.int .i64 (j:Int)] 47)).alloc (.cells #[.slice none 0 0] 22)).alloc (.cells #[.int .i64 0] 24)).heap.size=w.heap.size+3:=by simp
  have aw:=Aa (Gv [(.cells #[.int .i64 (i:Int),.int .i64 (j:Int)] 47:Obj),(.cells #[.slice none 0 0] 22:Obj),(.cells #[.int .i64 0] 24:Obj)] w)
  have eW:GZ w [(.cells #[.int .i64 (i:Int),.int .i64 (j:Int)] 47:Obj),(.cells #[.slice none 0 0] 22:Obj),(.cells #[.int .i64 0] 24:Obj)]=((w.alloc (.cells #[.int .i64 (i:Int),.int .i64 (j:Int)] 47)).alloc (.cells #[.slice none 0 0] 22)).alloc (.cells #[.int .i64 0] 24):=rfl
  rw[eW]at aw
  clear eW
  generalize ((w.alloc (.cells #[.int .i64 (i:Int),.int .i64 (j:Int)] 47)).alloc (.cells #[.slice none 0 0] 22)).alloc (.cells #[.int .i64 0] 24)=W at *
  have b9:Hid (Ac W w.heap.size #[.int .i64 (i:Int),.int .i64 (j:Int)] 47):=aw.out.2.2 0 _ rfl
  have H4:Hid (Ac W (w.heap.size+1) #[.slice none 0 0] 22):=aw.out.2.2 1 _ rfl
  have H5:Hid (Ac W (w.heap.size+2) #[.int .i64 0] 24):=aw.out.2.2 2 _ rfl
  clear aw
  have KP:Hid (∀w',Below W.heap.size W w'->(w'.cell? ⟨w.heap.size,0,none⟩=some (.int .i64 (i:Int))/\w'.cell? ⟨w.heap.size,1,none⟩=some (.int .i64 (j:Int)))/\(w'.cell? ⟨b,o+i*4,none⟩=some (.string oa.l.name)/\w'.cell? ⟨b,o+i*4+1,none⟩=some (.slice a1 oa.l.args.length c1)/\w'.cell? ⟨b,o+i*4+2,none⟩=some (.string oa.r.name)/\w'.cell? ⟨b,o+i*4+3,none⟩=some (.slice a2 oa.r.args.length c2)/\w'.cell? ⟨b,o+j*4,none⟩=some (.string nb.l.name)/\w'.cell? ⟨b,o+j*4+1,none⟩=some (.slice a3 nb.l.args.length c3)/\w'.cell? ⟨b,o+j*4+2,none⟩=some (.string nb.r.name)/\w'.cell? ⟨b,o+j*4+3,none⟩=some (.slice a4 nb.r.args.length c4))):=λw' hb=>by
    have dL:=ak.out.trans (hb.mono ak.out.size)
    have k:∀q,w'.cell? ⟨b,q,none⟩=w.cell? ⟨b,q,none⟩:=λq=>dL.cell (p:=⟨b,q,none⟩) dI
    have hP:=b9.out.below hb b9.out.lt
    refine⟨⟨hP.cell 0,hP.cell 1⟩,?_⟩
    simp only[k]
    exact dJ.out
  have kd:Below W.heap.size W W.drew:=(Af _ _).drew
  go_cut [6] from 13 to 25 (λo w'=>Sd oa nb W o w')
  case first=>
    refine ZI ?_
    refine CU (S:=Below W.heap.size W) (by kernel_rfl) kd (λhHeld=>?_)
    have ez:=kd.size
    generalize W.drew=wd at *
    refine tkz 0 ?_
    refine tkz 1 ?_ (hy:=by intro w' hSw;obtain⟨⟨e0,e1⟩,p0,p1,p2,p3,p4,p5,p6,p7⟩:=KP.out w' hSw;go_simp<;>with_reducible rfl)
    refine tkz 2 ?_ (hy:=by intro w' hSw;obtain⟨⟨e0,e1⟩,p0,p1,p2,p3,p4,p5,p6,p7⟩:=KP.out w' hSw;go_simp<;>with_reducible rfl)
    refine tkz 3 ?_ (hy:=by intro w' hSw;obtain⟨⟨e0,e1⟩,p0,p1,p2,p3,p4,p5,p6,p7⟩:=KP.out w' hSw;go_simp<;>with_reducible rfl)
    refine tkz 4 ?_ (hy:=by intro w' hSw;obtain⟨⟨e0,e1⟩,p0,p1,p2,p3,p4,p5,p6,p7⟩:=KP.out w' hSw;go_simp<;>with_reducible rfl)
    refine tkz 5 ?_
    refine tkz 6 ?_ (hy:=by intro w' hSw;obtain⟨⟨e0,e1⟩,p0,p1,p2,p3,p4,p5,p6,p7⟩:=KP.out w' hSw;go_simp<;>with_reducible rfl)
    refine tkz 7 ?_ (hy:=by intro w' hSw;obtain⟨⟨e0,e1⟩,p0,p1,p2,p3,p4,p5,p6,p7⟩:=KP.out w' hSw;go_simp<;>with_reducible rfl)
    refine tkz 8 ?_ (hy:=by intro w' hSw;obtain⟨⟨e0,e1⟩,p0,p1,p2,p3,p4,p5,p6,p7⟩:=KP.out w' hSw;go_simp<;>with_reducible rfl)
    refine tkz 9 ?_ (hy:=by intro w' hSw;obtain⟨⟨e0,e1⟩,p0,p1,p2,p3,p4,p5,p6,p7⟩:=KP.out w' hSw;go_simp<;>with_reducible rfl)
    refine tkz 10 ?_
    refine DV (rs:=[11,12]) (by kernel_rfl) (by simp) ?_
    refine Cb rfl (λK hK=>?_) (Cb rfl (λK hK=>?_) DW)
    · go_simp
      go_at_call 34
      refine(RM BT oa nb a1 a2 a3 a4 c1 c2 c3 c4 wd X0 (cP.out.later (ak.out.trans (kd.mono ak.out.size))) (cQ.out.later (ak.out.trans (kd.mono ak.out.size))) (cR.out.later (ak.out.trans (kd.mono ak.out.size))) (cS.out.later (ak.out.trans (kd.mono ak.out.size))) HO.out cm.out (HT.out.on ((ak.out.trans (kd.mono ak.out.size)).mono cM)) (by have h1:=ak.out.size; have h2:=Below.size kd; omega)).mono ?_
      rintro e w6 ⟨bk,x,y,b1,d1,b2,d2,b3,d3,b4,d4,bh,rfl,t1,t2,t3,t4⟩
      have k6:Below W.heap.size W w6:=kd.trans (bk.mono kd.size)
      have aF:Hid ((x,y)=Av oa nb/\Below wd.heap.size wd w6/\Sl w6 (λb=>wd.heap.size<=b) b1 x.l.args/\Sl w6 (λb=>wd.heap.size<=b) b2 x.r.args/\Sl w6 (λb=>wd.heap.size<=b) b3 y.l.args/\Sl w6 (λb=>wd.heap.size<=b) b4 y.r.args):=⟨bh,bk,t1,t2,t3,t4⟩
      clear bk bh t1 t2 t3 t4
      go_simp
      refine hK.out _ _ (by exact k6) (λhHeld=>?_)
      clear hK K
      try simp only[Act.put,sq]
      refine rdq 12 rfl λK hK=>?_
      go_simp
      have kz:Below W.heap.size W (w6.alloc (.cells #[.string ⟨#[]⟩,.slice none 0 0,.string ⟨#[]⟩,.slice none 0 0,.string ⟨#[]⟩,.slice none 0 0,.string ⟨#[]⟩,.slice none 0 0] 66)):=k6.alloc k6.size _
      have ao:Hid (Ac (w6.alloc (.cells #[.string ⟨#[]⟩,.slice none 0 0,.string ⟨#[]⟩,.slice none 0 0,.string ⟨#[]⟩,.slice none 0 0,.string ⟨#[]⟩,.slice none 0 0] 66)) w6.heap.size #[.string ⟨#[]⟩,.slice none 0 0,.string ⟨#[]⟩,.slice none 0 0,.string ⟨#[]⟩,.slice none 0 0,.string ⟨#[]⟩,.slice none 0 0] 66):=Ac.new w6 _ _
      have bV:Below w6.heap.size w6 (w6.alloc (.cells #[.string ⟨#[]⟩,.slice none 0 0,.string ⟨#[]⟩,.slice none 0 0,.string ⟨#[]⟩,.slice none 0 0,.string ⟨#[]⟩,.slice none 0 0] 66)):=(Af _ _).alloc (Aj _) _
      refine hK.out _ _ (by exact kz) (λhHeld=>?_)
      clear hK K
      try simp only[Act.put,sq]
      generalize (w6.alloc (.cells #[.string ⟨#[]⟩,.slice none 0 0,.string ⟨#[]⟩,.slice none 0 0,.string ⟨#[]⟩,.slice none 0 0,.string ⟨#[]⟩,.slice none 0 0] 66))=wz at *
      have bA:=Aa (Se (d1:=d1) (d2:=d2) (d3:=d3) (d4:=d4) k6.size aF.out.1 ao.out kz (((aF.out.2.2.1.mono λb h1 h2=>⟨by omega,by omega⟩).later bV)) (((aF.out.2.2.2.1.mono λb h1 h2=>⟨by omega,by omega⟩).later bV)) (((aF.out.2.2.2.2.1.mono λb h1 h2=>⟨by omega,by omega⟩).later bV)) (((aF.out.2.2.2.2.2.mono λb h1 h2=>⟨by omega,by omega⟩).later bV)))
      generalize w6.heap.size=B6 at *
      have q0:=ao.out.cell 0
      have q1:=ao.out.cell 1
      have q2:=ao.out.cell 2
      have q3:=ao.out.cell 3
      have q4:=ao.out.cell 4
      have q5:=ao.out.cell 5
      have q6:=ao.out.cell 6
      have q7:=ao.out.cell 7
      have qf:=ao.out.frozen
      have ql:=ao.out.lt
      refine rdq 13 rfl λK hK=>?_
      go_simp
      refine hK.out _ _ (by exact bA.out.1) (λhHeld=>?_)
      clear hK K
      try simp only[Act.put,sq]
      refine dnq ?_
      clear q0 q1 q2 q3 q4 q5 q6 q7
      simp only[M4]
      go_wp2_with fail
      go_meet
      exact bA.out.2
    · go_simp
      have kz:Below W.heap.size W (wd.alloc (.cells #[.string ⟨#[]⟩,.slice none 0 0,.string ⟨#[]⟩,.slice none 0 0,.string ⟨#[]⟩,.slice none 0 0,.string ⟨#[]⟩,.slice none 0 0] 66)):=kd.alloc kd.size _
      have cT:Hid (Ac (wd.alloc (.cells #[.string ⟨#[]⟩,.slice none 0 0,.string ⟨#[]⟩,.slice none 0 0,.string ⟨#[]⟩,.slice none 0 0,.string ⟨#[]⟩,.slice none 0 0] 66)) wd.heap.size #[.string ⟨#[]⟩,.slice none 0 0,.string ⟨#[]⟩,.slice none 0 0,.string ⟨#[]⟩,.slice none 0 0,.string ⟨#[]⟩,.slice none 0 0] 66):=Ac.new wd _ _
      have hz1:wd.heap.size<(wd.alloc (.cells #[.string ⟨#[]⟩,.slice none 0 0,.string ⟨#[]⟩,.slice none 0 0,.string ⟨#[]⟩,.slice none 0 0,.string ⟨#[]⟩,.slice none 0 0] 66)).heap.size:=by simp
      refine hK.out _ _ (by exact kz) (λhHeld=>?_)
      clear hK K
      try simp only[Act.put,sq]
      generalize (wd.alloc (.cells #[.string ⟨#[]⟩,.slice none 0 0,.string ⟨#[]⟩,.slice none 0 0,.string ⟨#[]⟩,.slice none 0 0,.string ⟨#[]⟩,.slice none 0 0] 66))=wz at *
      refine rdq 11 rfl λK hK=>?_
      go_simp
      go_at_call 34
      refine(RM BT oa nb a1 a2 a3 a4 c1 c2 c3 c4 wz X0 (cP.out.later (ak.out.trans (kz.mono ak.out.size))) (cQ.out.later (ak.out.trans (kz.mono ak.out.size))) (cR.out.later (ak.out.trans (kz.mono ak.out.size))) (cS.out.later (ak.out.trans (kz.mono ak.out.size))) HO.out cm.out (HT.out.on ((ak.out.trans (kz.mono ak.out.size)).mono cM)) (by have h1:=ak.out.size; have h2:=Below.size kz; omega)).mono ?_
      rintro e w6 ⟨bk,x,y,b1,d1,b2,d2,b3,d3,b4,d4,bh,rfl,t1,t2,t3,t4⟩
      have k6:Below W.heap.size W w6:=kz.trans (bk.mono kz.size)
      have aF:Hid ((x,y)=Av oa nb/\Below wz.heap.size wz w6/\Sl w6 (λb=>wz.heap.size<=b) b1 x.l.args/\Sl w6 (λb=>wz.heap.size<=b) b2 x.r.args/\Sl w6 (λb=>wz.heap.size<=b) b3 y.l.args/\Sl w6 (λb=>wz.heap.size<=b) b4 y.r.args):=⟨bh,bk,t1,t2,t3,t4⟩
      clear bk bh t1 t2 t3 t4
      go_simp
      refine hK.out _ _ (by exact k6) (λhHeld=>?_)
      clear hK K
      try simp only[Act.put,sq]
      have ao:=Aa (cT.out.below aF.out.2.1 cT.out.lt)
      have bA:=Aa (Se (d1:=d1) (d2:=d2) (d3:=d3) (d4:=d4) kd.size aF.out.1 ao.out k6 (aF.out.2.2.1.mono λb h1 h2=>⟨by omega,by omega⟩) (aF.out.2.2.2.1.mono λb h1 h2=>⟨by omega,by omega⟩) (aF.out.2.2.2.2.1.mono λb h1 h2=>⟨by omega,by omega⟩) (aF.out.2.2.2.2.2.mono λb h1 h2=>⟨by omega,by omega⟩))
      generalize wd.heap.size=B6 at *
      have q0:=ao.out.cell 0
      have q1:=ao.out.cell 1
      have q2:=ao.out.cell 2
      have q3:=ao.out.cell 3
      have q4:=ao.out.cell 4
      have q5:=ao.out.cell 5
      have q6:=ao.out.cell 6
      have q7:=ao.out.cell 7
      have qf:=ao.out.frozen
      have ql:=ao.out.lt
      refine rdq 13 rfl λK hK=>?_
      go_simp
      refine hK.out _ _ (by exact bA.out.1) (λhHeld=>?_)
      clear hK K
      try simp only[Act.put,sq]
      refine dnq ?_
      clear q0 q1 q2 q3 q4 q5 q6 q7
      simp only[M4]
      go_wp2_with fail
      go_meet
      exact bA.out.2
  case rest=>
    obtain⟨B,x,y,b1,d1,b2,d2,b3,d3,b4,d4,rfl,cU,bh,bB,bx,t1,t2,t3,t4⟩:=hcut
    have cp:=Aa bh
    have dM:=Aa bB
    have dN:=Aa bx
    have cq:=Aa t1
    have cV:=Aa t2
    have bW:=Aa t3
    have cW:=Aa t4
    obtain⟨R5,bX⟩:∃R5,R5=w.heap.size+1+1:=⟨_,rfl⟩
    obtain⟨R4,bY⟩:∃R4,R4=w.heap.size+1:=⟨_,rfl⟩
    obtain⟨P3,bZ⟩:∃P3,P3=w.heap.size:=⟨_,rfl⟩
    have ar:Hid (P3=w.heap.size/\R4=w.heap.size+1/\R5=w.heap.size+2/\W.heap.size=w.heap.size+3/\W.heap.size<=wc.heap.size/\B<wc.heap.size/\W.heap.size<=B):=⟨bZ,bY,bX,hz3,bx.size,bB.lt,cU⟩
    have dO:Hid (Ac wc P3 #[.int .i64 (i:Int),.int .i64 (j:Int)] 47):=by rw[bZ]; exact b9.out.below bx b9.out.lt
    have cX:Hid (Ac wc R4 #[.slice none 0 0] 22):=by rw[bY]; exact H4.out.below bx H4.out.lt
    have cY:Hid (Ac wc R5 #[.int .i64 0] 24):=by rw[bX]; exact H5.out.below bx H5.out.lt
    rw[<-bX,<-bY,<-bZ]
    have e0:∀o,(wc.alloc o).cell? ⟨B,0,none⟩=some (.string x.l.name):=λo=>(bB.alloc o).cell 0
    have e1:∀o,(wc.alloc o).cell? ⟨B,1,none⟩=some (.slice b1 x.l.args.length d1):=λo=>(bB.alloc o).cell 1
    clear bh bB bx t1 t2 t3 t4 KP kd bX bY bZ hz3 cU H4 H5 b9
    have bC:Hid (Below w.heap.size w wc):=ak.out.trans (dN.out.mono ak.out.size)
    have bz:Hid ((Ay x.l=0/\Ay x.r=0)/\Ay y.l=0/\Ay y.r=0):=by
      have h:=IQ HO.out cm.out
      rw[<-cp.out]at h
      exact h
    go_step
    refine(wpIn_wide (n:=9)).1 ?_
    have e3:Fence.wide.fn 35:=trivial
    gi_wp2_with (first|(gi_at_call 35; refine(DN.2 (Xb _ _ _ _ _ _ _ _)).mono ?_; rintro e w' ⟨rfl,rfl⟩))
    refine Pl (gf:=58) (lb:=#[.pointer (some ⟨wc.heap.size+1,0,none⟩),.pointer (some ⟨wc.heap.size+2,0,none⟩)]) rfl (enters_of Tryz.func58 (by kernel_rfl) rfl) ?_
    intro r hr1 hr2 hr3 hr4 cr ct
    have cZ:(((wc.alloc (.cells #[.slice none 0 0] 22)).alloc (.cells #[.string x.l.name,.slice b1 x.l.args.length d1] 29)).alloc (.cells #[.slice none 0 0] 56)).heap.size=wc.heap.size+3:=by simp
    have dc:(((((wc.alloc (.cells #[.slice none 0 0] 22)).alloc (.cells #[.string x.l.name,.slice b1 x.l.args.length d1] 29)).alloc (.cells #[.slice none 0 0] 56)).alloc (.deferred (some []))).alloc (.loop r))=GZ wc [(.cells #[.slice none 0 0] 22:Obj),(.cells #[.string x.l.name,.slice b1 x.l.args.length d1] 29:Obj),(.cells #[.slice none 0 0] 56:Obj),(.deferred (some []):Obj),(.loop r:Obj)]:=rfl
    rw[cZ]
    have aw:=Aa (Gv [(.cells #[.slice none 0 0] 22:Obj),(.cells #[.string x.l.name,.slice b1 x.l.args.length d1] 29:Obj),(.cells #[.slice none 0 0] 56:Obj),(.deferred (some []):Obj),(.loop r:Obj)] wc)
    rw[<-dc]at aw
    clear dc
    generalize (((((wc.alloc (.cells #[.slice none 0 0] 22)).alloc (.cells #[.string x.l.name,.slice b1 x.l.args.length d1] 29)).alloc (.cells #[.slice none 0 0] 56)).alloc (.deferred (some []))).alloc (.loop r))=W5 at *
    have e4:W5.heap.size=wc.heap.size+5:=aw.out.2.1
    have aS:Hid (Below wc.heap.size wc W5):=aw.out.1
    have dP:Hid (Ac W5 wc.heap.size #[.slice none 0 0] 22):=aw.out.2.2 0 _ rfl
    have dQ:Hid (Ac W5 (wc.heap.size+1) #[.string x.l.name,.slice b1 x.l.args.length d1] 29):=aw.out.2.2 1 _ rfl
    have dR:Hid (Ac W5 (wc.heap.size+2) #[.slice none 0 0] 56):=aw.out.2.2 2 _ rfl
    have dS:Hid (W5.heap[wc.heap.size+3]? = some (.deferred (some []))):=aw.out.2.2 3 _ rfl
    have dT:Hid (W5.heap[wc.heap.size+4]? = some (.loop r)):=aw.out.2.2 4 _ rfl
    clear aw e0 e1
    obtain⟨K,hK⟩:∃K:Nat->Prop,K=λq=>q<wc.heap.size+4/\q≠wc.heap.size/\q≠R4/\q≠R5:=⟨_,rfl⟩
    have b6:Hid (∀q,K q↔(q<wc.heap.size+4/\q≠wc.heap.size/\q≠R4/\q≠R5)):=λq=>by rw[hK]
    clear hK
    have aa:Hid (Hz wc.heap.size R4 R5 (wc.heap.size+4) W5.heap.size):=by have:=ar.out; unfold Hid Hz; omega
    obtain⟨rd,cu⟩:∃rd:Loop,rd={ r with state:=.done,pending:=some .ret}:=⟨_,rfl⟩
    obtain⟨rb,df⟩:∃rb:Loop,rb={ r with state:=.busy}:=⟨_,rfl⟩
    have cv:Fx (JO U (x,y) same K wc.heap.size R4 R5 (wc.heap.size+4) r rd W5) K:=JO.ok
    have RH:Mg (wc.heap.size+4) Mi (JO U (x,y) same K wc.heap.size R4 R5 (wc.heap.size+4) r rd W5) (AM [] [] x.l):=by
      have dU:=Aa hr1
      have dV:=Aa hr2
      have dW:=Aa hr3
      have dX:=Aa hr4
      have dY:=Aa cr
      have dZ:=Aa ct
      clear hr1 hr2 hr3 hr4 cr ct cv cZ
      intro n pre d args Z f W1 bl hj hl hZ
      obtain⟨dp,dh,hat⟩:=P6 (bl.subset (by simp):d∈AM [] [] x.l)
      rw[DY]at dh
      subst dh
      have hlen:pre.length<=1000000:=by
        have h1:=bl.length_le
        have h2:(AM [] [] x.l).length<=Ab [x.l]:=by
          obtain⟨s,l⟩:=x.l
          unfold AM
          have:=P7 l [] 0 (Ci []) ([]:List Int).tail
          have e:Ab [(⟨s,l⟩:Tm)]=1+Ab l:=by simp[Ab]
          rw[e,Bs]
          simp only
          omega
        have h3:=CC bz.out.1.1
        rw[Dm]at h1
        omega
      clear bl
      obtain⟨v,cs,F,hj⟩:=hj
      obtain⟨pu,tv,rfl,hp,ea⟩:=hl
      obtain⟨xa,xc,rfl,di⟩:=ea
      obtain⟨pa,pc,eb,ed⟩:=id hp
      subst eb
      clear ed
      have HJ:=Aa hj
      have HP:=Aa hp
      have ee:=Aa di
      have HZ:=Aa hZ
      have cw:=Aa hat
      have hL:W1.heap[wc.heap.size+4]? = some (.loop r):=hj.lp
      have dm:wc.heap.size+4<W1.heap.size:=(DM.1 hL).1
      have dn:Hid (cs.length<=1000000):=by
        have h1:=Bu List.length (hj.yes rfl).1
        rw[DZ]at h1
        have h2:=List.length_filterMap_le (Eg U (x,y) same) pre
        unfold Hid
        omega
      clear hp di hZ hat hj hlen
      refine Pk df cu dY.out dZ.out dX.out dW.out hL dU.out dV.out rfl ?_
      have hL2:(W1.alloc (.cells #[.string d.2.name,.slice xa d.2.args.length xc] 29)).heap[wc.heap.size+4]? = some (.loop r):=(AP _ _ _ dm).trans hL
      have dr:∀q,q<W1.heap.size->q≠wc.heap.size+4->((W1.alloc (.cells #[.string d.2.name,.slice xa d.2.args.length xc] 29)).putObj (wc.heap.size+4) (.loop rb)).heap[q]? = W1.heap[q]? := λq hq hne=>(World.putObj_heap_other hne).trans (AP _ _ _ hq)
      have dt:((W1.alloc (.cells #[.string d.2.name,.slice xa d.2.args.length xc] 29)).putObj (wc.heap.size+4) (.loop rb)).heap.size=W1.heap.size+1:=by simp
      have dv:Ac ((W1.alloc (.cells #[.string d.2.name,.slice xa d.2.args.length xc] 29)).putObj (wc.heap.size+4) (.loop rb)) W1.heap.size #[.string d.2.name,.slice xa d.2.args.length xc] 29:=(World.putObj_heap_other (by omega)).trans (Ac.new W1 _ _)
      have dw:((W1.alloc (.cells #[.string d.2.name,.slice xa d.2.args.length xc] 29)).putObj (wc.heap.size+4) (.loop rb)).heap[wc.heap.size+4]? = some (.loop rb):=World.putObj_heap_same (by simp; omega)
      have cx:Hid (((W1.alloc (.cells #[.string d.2.name,.slice xa d.2.args.length xc] 29)).putObj (wc.heap.size+4) (.loop rb)).os=W1.os/\((W1.alloc (.cells #[.string d.2.name,.slice xa d.2.args.length xc] 29)).putObj (wc.heap.size+4) (.loop rb)).tape=W1.tape/\((W1.alloc (.cells #[.string d.2.name,.slice xa d.2.args.length xc] 29)).putObj (wc.heap.size+4) (.loop rb)).output=W1.output):=⟨rfl,rfl,rfl⟩
      have ef:=Aa dw
      have bj:=Aa dr
      have b7:=Aa dv
      have aT:=Aa dt
      clear df cu dw dr dv dt
      gi_wp2
      refine⟨(DM.1 hL2).2,?_⟩
      clear hL2
      generalize ((W1.alloc (.cells #[.string d.2.name,.slice xa d.2.args.length xc] 29)).putObj (wc.heap.size+4) (.loop rb))=V at *
      have aG:Hid (W5.heap.size<=W1.heap.size):=HJ.out.sz
      have dx:Hid (∀ {q:Nat} {c:Array Value} {T:Nat},Ac wc q c T->q≠R4->q≠R5->Ac V q c T):=fun {q c T} h h4 h5=>by
        have hl:=h.lt
        have h1:=aG.out
        exact(bj.out q (by omega) (by omega)).trans ((HJ.out.kp q ((b6.out q).2 ⟨by omega,by omega,h4,h5⟩)).trans ((aS.out.block q hl).trans h))
      have aU:Hid (∀ {a:Option Addr} {l:List Tm},Sl wc (λq=>W.heap.size<=q/\q≠B) a l->Sl V (λ_=>True) a l):=fun {a l} h=>((h.mono (Y:=λq=>W.heap.size<=q/\q<wc.heap.size) λq h1 h2=>⟨h1.1,h2⟩).kept (w':=V) λq hq=>by
        have h1:=aG.out
        have h2:=ar.out
        exact(bj.out q (by omega) (by omega)).trans ((HJ.out.kp q ((b6.out q).2 ⟨by omega,by omega,by omega,by omega⟩)).trans (aS.out.block q hq.2))).mono λ_ _ _=>trivial
      have dy:Hid (Ac V P3 #[.int .i64 (i:Int),.int .i64 (j:Int)] 47):=dx.out dO.out (by have:=ar.out; omega) (by have:=ar.out; omega)
      have aV:Hid (Ac V B #[.string x.l.name,.slice b1 x.l.args.length d1,.string x.r.name,.slice b2 x.r.args.length d2,.string y.l.name,.slice b3 y.l.args.length d3,.string y.r.name,.slice b4 y.r.args.length d4] 66):=dx.out dM.out (by have:=ar.out; omega) (by have:=ar.out; omega)
      have cc:Hid (∀q,Z q->q<W1.heap.size/\q≠wc.heap.size+4):=λq hq=>⟨(HZ.out q hq).1,λe=>(HZ.out q hq).2 ((HJ.out.ff q).2 (Ad e))⟩
      have cy:Hid (PV V (λ_=>True) (.slice pa d.1.length pc) d.1):=(HP.out.kept λq hq=>bj.out q (cc.out q hq).1 (cc.out q hq).2).mono λ_ _ _=>trivial
      have dz:Hid (Sl V (λ_=>True) xa d.2.args):=(ee.out.kept λq hq=>bj.out q (cc.out q hq).1 (cc.out q hq).2).mono λ_ _ _=>trivial
      have dA:Hid (Tb BT V):=HT.out.heap (by have h1:=aG.out; have h2:=aT.out; have h3:=ar.out; omega) (λq hq=>by
        have h1:=aG.out
        have h2:=ar.out
        exact(bj.out q (by omega) (by omega)).trans ((HJ.out.kp q ((b6.out q).2 ⟨by omega,by omega,by omega,by omega⟩)).trans ((aS.out.block q (by omega)).trans (bC.out.block q (by omega)))))
      have aW:Hid (E9 W1 (wc.heap.size+4) rb V):=⟨by have:=aT.out; omega,cx.out,bj.out,ef.out⟩
      have b8:Hid (Ck [⟨d.2,y.l⟩]=0):=Sc (Sb bz.out.1.1 cw.out) bz.out.2.1
      have cd:Hid (Cx V W5.heap.size (λ_=>False) v cs):=by
        have hlt:=HJ.out.ow.lt
        have h1:=aa.out.2.2.2.1
        have kk:∀ {a:Option Addr} {l:List Tm},Sl W1 (λb=>F b/\some b≠v.ownBlock) a l->Sl V (λb=>False∨(W5.heap.size<=b/\some b≠v.ownBlock)) a l:=λhs=>(hs.kept λq hq=>bj.out q (HJ.out.fi q hq.1).2 (by have:=(HJ.out.fi q hq.1).1; omega)).mono λq hq _=>Ae ⟨(HJ.out.fi q hq.1).1,hq.2⟩
        exact⟨DG HJ.out.ow λg hg=>bj.out g (hlt g hg).2 (by have:=(hlt g hg).1; omega),λz hz=>⟨kk (HJ.out.ro z hz).1,kk (HJ.out.ro z hz).2⟩⟩
      have cf:Hid (((d.1.length:Int)==0)=decide (d.1=[])):=by
        unfold Hid
        rw[Fs]
        simp
      have g0:=dy.out.c0
      have g1:=dy.out.c1
      have x0:=b7.out.c0
      have x1:=b7.out.c1
      have y4:V.cell? ⟨B,4,none⟩=some (.string y.l.name):=aV.out.cell 4
      have y5:V.cell? ⟨B,5,none⟩=some (.slice b3 y.l.args.length d3):=aV.out.cell 5
      have hsm:=dK.out
      clear hL dm
      obtain⟨np,dB⟩:∃np,np=d.1.length:=⟨_,rfl⟩
      rw[<-dB]at cf cy ⊢
      clear dB HP
      have cg:=cf.out
      by_cases cj:d.1=[]
      · have cz:((np:Int)==0)=true:=by rw[cg]; simp[cj]
        clear cg cf
        have hse:same=true∨same=false:=by cases same<;>simp
        rcases hse with hse|hse
        · have c6:=Aa hse
          rw[hse]at hsm
          clear hse
          gi_wp2
          refine⟨trivial,?_⟩
          gi_wp2
          exact JD (d:=d) aa.out HJ.out aW.out.1 aW.out.2.1 aW.out.2.2.1 aW.out.2.2.2 (by have e1:=c6.out; unfold CS; simp[cj,e1])
        · have c6:=Aa hse
          rw[hse]at hsm
          clear hse
          have aI:Hid ((decide (d.1=[])&&same)=false):=by have e1:=c6.out; unfold Hid; simp[e1]
          gi_wp2
          refine⟨trivial,(λh=>by simp[Fence.wide] at h),?_⟩
          refine(CallsIn.inRound _ (DN.2 (RI d.2 y.l xa b3 xc d3 V))).mono ?_
          rintro e w9 ⟨rfl,aJ⟩
          have aX:=Aa (aW.out.later aJ)
          have aY:=Aa aJ
          have X9:=Aa (b7.out.below aJ b7.out.lt)
          have Y9:=Aa (aV.out.below aJ aV.out.lt)
          clear aJ g0 g1 x0 x1 y4 y5
          cases bm:EK d.2 y.l with
          |false=>
            gi_wp2
            exact JD aa.out HJ.out aX.out.1 aX.out.2.1 aX.out.2.2.1 aX.out.2.2.2 (by have e1:=aI.out; unfold CS; simp only[e1,bm,Bool.not_false,Bool.or_true,Bool.true_or,Bool.false_or])
          |true=>
            have c7:=Aa bm
            have x0:=X9.out.c0
            have x1:=X9.out.c1
            have y4:w9.cell? ⟨B,4,none⟩=some (.string y.l.name):=Y9.out.cell 4
            have y5:w9.cell? ⟨B,5,none⟩=some (.slice b3 y.l.args.length d3):=Y9.out.cell 5
            clear bm
            gi_wp2
            have bn:Hid (QV (w9.alloc (.cells #[.string d.2.name,.slice xa d.2.args.length xc,.string y.l.name,.slice b3 y.l.args.length d3] 31)) (λ_=>True) (.slice (some ⟨w9.heap.size,0,none⟩) 1 1) [⟨d.2,y.l⟩]):=Sa (Ac.new w9 _ _) ((dz.out.later aY.out).later ((Af _ _).alloc (Aj _) _)) (((aU.out bW.out).later aY.out).later ((Af _ _).alloc (Aj _) _))
            have bo:Below w9.heap.size w9 (w9.alloc (.cells #[.string d.2.name,.slice xa d.2.args.length xc,.string y.l.name,.slice b3 y.l.args.length d3] 31)):=(Af _ _).alloc (Aj _) _
            generalize (w9.alloc (.cells #[.string d.2.name,.slice xa d.2.args.length xc,.string y.l.name,.slice b3 y.l.args.length d3] 31))=c8 at *
            obtain⟨gq,bD⟩:=cN.out _ b8.out
            refine⟨trivial,(λh=>by simp[Fence.wide] at h),?_⟩
            refine(CallsIn.inRound _ (DN.2 (R8 [⟨d.2,y.l⟩] (U [⟨d.2,y.l⟩]) gq (λ_=>bD) _ c8 (λ_=>True) bn.out))).mono ?_
            rintro e aq c9
            clear bD x0 x1 y4 y5
            rcases c9 with ⟨hne,-,-⟩|⟨-,aK,cA⟩
            · exact absurd b8.out hne
            have aZ:Below V.heap.size V aq:=aY.out.trans ((bo.trans (aK.mono bo.size)).mono aY.out.size)
            have ae:=Aa aZ
            have ai:=Aa (aW.out.later aZ)
            have av:=Aa (aV.out.below aZ aV.out.lt)
            have B4:=Aa (ai.out.blk HJ.out.b4 aa.out.2.2.2.2.2.2.2.2.1)
            have B5:=Aa (ai.out.blk HJ.out.b5 aa.out.2.2.2.2.2.2.2.2.2)
            have bb:Hid (CS U (x,y) same d=(decide (C0 (U [⟨d.2,y.l⟩])≠0)&&decide (C0 (U [⟨d.2,y.l⟩])≠8))):=by have e1:=aI.out; have e2:=c7.out; unfold Hid CS; simp only[e1,e2,Bool.not_true,Bool.false_or]
            have bE:=B4.out.c0
            have bF:=B5.out.c0
            have bc:=aa.out.2.2.2.2.2.2.2.1
            have bG:=D6 bc
            have bH:=B4.out.frozen 0
            have bI:=B5.out.frozen 0
            have bJ:=B4.out.lt
            have bK:=B5.out.lt
            clear aZ aK bo
            rcases cA with ⟨hg,rfl⟩|⟨hg,hr,rfl⟩|⟨hg,hr,us,rfl,bp⟩
            · have aL:Hid (C0 (U [⟨d.2,y.l⟩])=8):=by unfold Hid C0; rw[As hg]
              clear hg
              gi_wp2
              exact IV aa.out HJ.out ai.out ⟨by rw[bb.out,aL.out]; rfl,Ad aL.out⟩
            · have ax:Hid (C0 (U [⟨d.2,y.l⟩])=(U [⟨d.2,y.l⟩]).1):=by unfold Hid C0; rw[An (by simp[hg])]
              by_cases h8:(U [⟨d.2,y.l⟩]).1=8
              · have aL:Hid (C0 (U [⟨d.2,y.l⟩])=8):=ax.out.trans h8
                rw[h8]
                clear hg hr h8 ax
                gi_wp2
                exact IV aa.out HJ.out ai.out ⟨by rw[bb.out,aL.out]; rfl,Ad aL.out⟩
              · have cB:Hid (CS U (x,y) same d=true):=by unfold Hid; rw[bb.out,ax.out]; simp[hr,h8]
                generalize (U [⟨d.2,y.l⟩]).1=er at *
                have hr2:(er==8)=false:=by simp[h8]
                have hr3:(er !=0)=true:=by simp[hr]
                clear hg ax
                gi_wp2
                exact JD aa.out HJ.out ai.out.1 ai.out.2.1 ai.out.2.2.1 ai.out.2.2.2 cB.out
            · have ax:Hid (C0 (U [⟨d.2,y.l⟩])=0):=by unfold Hid C0; rw[An (by simp[hg])]; exact hr
              have bq:Hid (CS U (x,y) same d=false):=by unfold Hid; rw[bb.out,ax.out]; rfl
              have br:=Aa bp
              obtain⟨sa,sc,cC,-⟩:=id bp
              subst cC
              have cD:=Aa hr
              clear hg hr bp
              have z0:=av.out.c0
              have z1:=av.out.c1
              have z2:=av.out.c2
              have z3:=av.out.c3
              have z4:aq.cell? ⟨B,4,none⟩=some (.string y.l.name):=av.out.cell 4
              have z5:aq.cell? ⟨B,5,none⟩=some (.slice b3 y.l.args.length d3):=av.out.cell 5
              have z6:aq.cell? ⟨B,6,none⟩=some (.string y.r.name):=av.out.cell 6
              have z7:aq.cell? ⟨B,7,none⟩=some (.slice b4 y.r.args.length d4):=av.out.cell 7
              clear bE bF bH bI bJ bK
              gi_wp2
              refine⟨trivial,(λh=>by simp[Fence.wide] at h),?_⟩
              refine(CallsIn.inRound _ (DN.2 (RL BT (U [⟨d.2,y.l⟩]).2 (cO.out _ b8.out cD.out) x y d.1 b1 b2 b3 b4 d1 d2 d3 d4 _ _ aq (λ_=>True) ((aU.out cq.out).later ae.out) ((aU.out cV.out).later ae.out) ((aU.out bW.out).later ae.out) ((aU.out cW.out).later ae.out) (cy.out.later ae.out) (br.out.mono λ_ _ _=>trivial) (by rw[cw.out]; rfl) (by have:=CC bz.out.1.1; omega) (dA.out.heap ae.out.size (λq hq=>ae.out.block q (by have h1:=aG.out; have h2:=aT.out; have h3:=ar.out; omega))) (by have h0:=ae.out.size; have h1:=aG.out; have h2:=aT.out; have h3:=ar.out; omega)))).mono ?_
              rintro e ah ⟨ay,aM⟩
              have aN:=Aa ay.size
              have az:=Aa (ae.out.trans (ay.mono ae.out.size))
              have ag:=Aa (aW.out.later az.out)
              clear ay z0 z1 z2 z3 z4 z5 z6 z7
              rcases aM with ⟨bL,rfl⟩|⟨hs1,hs2,y2,q1,e1,q2,e2,bM,rfl,bN,bO⟩
              · have bP:=Aa bL
                clear bL
                have aO:Hid (∀o,E9 W1 (wc.heap.size+4) rb (ah.alloc o)):=λo=>ag.out.alloc o
                have bE:∀o,(ah.alloc o).cell? ⟨R4,0,none⟩=some (.slice none 0 0):=λo=>((aO.out o).blk HJ.out.b4 aa.out.2.2.2.2.2.2.2.2.1).cell 0
                have bF:∀o,(ah.alloc o).cell? ⟨R5,0,none⟩=some (.int .i64 0):=λo=>((aO.out o).blk HJ.out.b5 aa.out.2.2.2.2.2.2.2.2.2).cell 0
                have bH:∀o,(ah.alloc o).frozen? ⟨R4,0,none⟩=false:=λo=>((aO.out o).blk HJ.out.b4 aa.out.2.2.2.2.2.2.2.2.1).frozen 0
                have bI:∀o,(ah.alloc o).frozen? ⟨R5,0,none⟩=false:=λo=>((aO.out o).blk HJ.out.b5 aa.out.2.2.2.2.2.2.2.2.2).frozen 0
                have bJ:R4<ah.heap.size:=(ag.out.blk HJ.out.b4 aa.out.2.2.2.2.2.2.2.2.1).lt
                have bK:R5<ah.heap.size:=(ag.out.blk HJ.out.b5 aa.out.2.2.2.2.2.2.2.2.2).lt
                have eh:=(ag.out.blk HJ.out.b4 aa.out.2.2.2.2.2.2.2.2.1).cell 0
                have ei:ah.cell? ⟨R5,0,none⟩=some (.int .i64 0):=(ag.out.blk HJ.out.b5 aa.out.2.2.2.2.2.2.2.2.2).cell 0
                have ej:=(ag.out.blk HJ.out.b4 aa.out.2.2.2.2.2.2.2.2.1).frozen 0
                have ek:=(ag.out.blk HJ.out.b5 aa.out.2.2.2.2.2.2.2.2.2).frozen 0
                gi_wp2
                first|exact Sg aa.out HJ.out ag.out _ ⟨bq.out,Ae bP.out⟩|exact IV aa.out HJ.out (aO.out _) ⟨bq.out,Ae bP.out⟩
              · have cE:=Aa bN
                have cF:=Aa bO
                have bQ:=Aa (And.intro hs1 hs2)
                have cG:=Aa bM
                clear bN bO hs1 hs2 bM
                obtain⟨va,vc,hv⟩:=DP cd.out.own
                subst hv
                have aP:(ah.alloc (.cells #[.string y2.l.name,.slice q1 y2.l.args.length e1,.string y2.r.name,.slice q2 y2.r.args.length e2] 31)).heap.size=ah.heap.size+1:=by simp
                have aQ:Below ah.heap.size ah (ah.alloc (.cells #[.string y2.l.name,.slice q1 y2.l.args.length e1,.string y2.r.name,.slice q2 y2.r.args.length e2] 31)):=(Af _ _).alloc (Aj _) _
                have bf:=Aa (Ac.new ah #[.string y2.l.name,.slice q1 y2.l.args.length e1,.string y2.r.name,.slice q2 y2.r.args.length e2] 31)
                have aj:=Aa (ag.out.later aQ)
                have bs:=Aa (az.out.trans (aQ.mono az.out.size))
                have bR:=Aa (cE.out.later aQ)
                have bS:=Aa (cF.out.later aQ)
                have a6:Hid (V.heap.size<=aq.heap.size/\aq.heap.size<=ah.heap.size):=⟨ae.out.size,aN.out⟩
                generalize aR:ah.alloc (.cells #[.string y2.l.name,.slice q1 y2.l.args.length e1,.string y2.r.name,.slice q2 y2.r.args.length e2] 31)=aC at *
                have bt:=Aa (aj.out.blk HJ.out.ba aa.out.2.2.2.2.2.2.1)
                obtain⟨v2,w3,hrun,bg,a7,hv2⟩:=MQ cd.out (by have h1:=aG.out; have h2:=aT.out; omega) (λ_ h=>h.elim) bs.out (y2,(q1,e1),(q2,e2)) ⟨bR.out.mono λb hb _=>Ae (by have:=a6.out; omega),bS.out.mono λb hb _=>Ae (by have:=a6.out; omega)⟩ dn.out (ah.heap.size+1) aP
                obtain⟨a8,aA,bT⟩:=DP bg.own
                rw[Dm,Ic]at bT
                subst bT
                simp only at hrun a7
                have hlv:=HJ.out.ow.lt
                have gk:∀b,b<aC.heap.size->(Value.slice va cs.length vc).ownBlock≠some b->w3.heap[b]? = aC.heap[b]? := λb hb hne=>(a7.block b (by simp; omega) (λe=>hne e.symm)).trans (AP _ _ _ hb)
                have hno:∀b,b<W5.heap.size->(Value.slice va cs.length vc).ownBlock≠some b:=λb hb e=>by have:=(hlv b e).1; omega
                have hD:=aa.out
                have cH:W1.heap.size<=aC.heap.size:=aj.out.1
                have A3:Ac w3 wc.heap.size #[.slice va cs.length vc] 22:=(gk _ bt.out.lt (hno _ hD.1)).trans bt.out
                have aB:Hid ((w3.setCell ⟨wc.heap.size,0,none⟩ (.slice a8 (cs.length+1) aA)).heap[wc.heap.size+4]? = some (.loop rb)/\∃f',JO U (x,y) same K wc.heap.size R4 R5 (wc.heap.size+4) r rd W5 (pre++[d]) true f' ((w3.setCell ⟨wc.heap.size,0,none⟩ (.slice a8 (cs.length+1) aA)).putObj (wc.heap.size+4) (.loop r))/\Al f W1 ((w3.setCell ⟨wc.heap.size,0,none⟩ (.slice a8 (cs.length+1) aA)).putObj (wc.heap.size+4) (.loop r))/\∀b,f' b->f b∨W1.heap.size<=b):=by
                  have so:∀b,b≠wc.heap.size->(w3.setCell ⟨wc.heap.size,0,none⟩ (.slice a8 (cs.length+1) aA)).heap[b]? = w3.heap[b]? := λb hb=>Aq _ _ _ _ (by simpa using hb)
                  have hz1:=aG.out
                  have en:=aT.out
                  have cI:=a6.out
                  have eo:aC.heap.size<=w3.heap.size:=by have:=a7.size; simp at this; omega
                  have nw : ∀ {a : Option Addr} {l : List Tm}, Sl aC (λb => aq.heap.size <= b) a l -> Sl (w3.setCell ⟨wc.heap.size, 0, none⟩ (.slice a8 (cs.length + 1) aA)) (λb => W1.heap.size <= b /\ some b ≠ (Value.slice a8 (cs.length + 1) aA).ownBlock) a l := λh => ((h.mono (Y := λb => aq.heap.size <= b /\ b < aC.heap.size) λb h1 h2 => ⟨h1, h2⟩).kept λb hb => (so b (by omega)).trans (gk b hb.2 (λe => by have := (hlv b e).2; omega))).mono λb hb _ => ⟨by omega, λe => by
                    rcases hv2 b e.symm with q|q
                    · have:=(hlv b q).2; omega
                    · omega⟩
                  refine RO (V:=w3.setCell ⟨wc.heap.size,0,none⟩ (.slice a8 (cs.length+1) aA)) hD HJ.out (by simp[World.setCell]; omega) ⟨a7.os.trans aj.out.2.1.1,a7.tape.trans aj.out.2.1.2.1,a7.output.trans aj.out.2.1.2.2⟩ (λq h1 h2 h3 h4=>(so q h3).trans ((gk q (by omega) (λe=>h4 e.symm)).trans (aj.out.2.2.1 q h1 h2))) ((so _ (by omega)).trans ((gk _ (by omega) (hno _ hD.2.2.2.1)).trans aj.out.2.2.2)) (Ac.set1R A3) (y2,(q1,e1),(q2,e2)) (DG (by rw[Dm,Ic]; have h:=bg.own; rw[Dm,Ic] at h; exact h) λg hg=>so g (by have:=(bg.own.lt g hg).1; omega)) (λk hk=>by
                    rcases hv2 k hk with q|q
                    · exact Ad q
                    · exact Ae (by omega)) ⟨nw bR.out,nw bS.out⟩ bq.out cG.out (λhf=>?_)
                  rcases hf.2 with q|q|q
                  · have h1:=ax.out
                    have h2:C0 (U [⟨d.2,y.l⟩])=8:=q
                    omega
                  · have h1:=bQ.out.1
                    have h2:2000<Ab [(EX (U [⟨d.2,y.l⟩]).2 x y d.1).l]:=q
                    omega
                  · have h1:=bQ.out.2
                    have h2:2000<Ab [(EX (U [⟨d.2,y.l⟩]).2 x y d.1).r]:=q
                    omega
                have a0:=bt.out.c0
                have a3:=A3.c0
                have af:=A3.frozen 0
                have p0:=bf.out.c0
                have p1:=bf.out.c1
                have p2:=bf.out.c2
                have p3:=bf.out.c3
                have a1:ah.cell? ⟨wc.heap.size,0,none⟩=some (.slice va cs.length vc):=(ag.out.blk HJ.out.ba aa.out.2.2.2.2.2.2.1).cell 0
                have al:wc.heap.size<ah.heap.size:=(ag.out.blk HJ.out.ba aa.out.2.2.2.2.2.2.1).lt
                clear bg a7 hv2 hlv gk hno hD cH A3 aQ
                rw[<-aR]at a0 p0 p1 p2 p3 hrun
                have bu:=Aa hrun
                clear aR aP hrun
                gi_wp2_with (gi_at_builtin; refine Sf rfl _ _ _ _ rfl rfl rfl bu.out ?_)
                exact aB.out
      · have cz:((np:Int)==0)=false:=by rw[cg]; simp[cj]
        clear cg cf
        have aI:Hid ((decide (d.1=[])&&same)=false):=by unfold Hid; simp[cj]
        gi_wp2
        refine⟨trivial,(λh=>by simp[Fence.wide] at h),?_⟩
        refine(CallsIn.inRound _ (DN.2 (RI d.2 y.l xa b3 xc d3 V))).mono ?_
        rintro e w9 ⟨rfl,aJ⟩
        have aX:=Aa (aW.out.later aJ)
        have aY:=Aa aJ
        have X9:=Aa (b7.out.below aJ b7.out.lt)
        have Y9:=Aa (aV.out.below aJ aV.out.lt)
        clear aJ g0 g1 x0 x1 y4 y5
        cases bm:EK d.2 y.l with
        |false=>
          gi_wp2
          exact JD aa.out HJ.out aX.out.1 aX.out.2.1 aX.out.2.2.1 aX.out.2.2.2 (by have e1:=aI.out; unfold CS; simp only[e1,bm,Bool.not_false,Bool.or_true,Bool.true_or,Bool.false_or])
        |true=>
          have c7:=Aa bm
          have x0:=X9.out.c0
          have x1:=X9.out.c1
          have y4:w9.cell? ⟨B,4,none⟩=some (.string y.l.name):=Y9.out.cell 4
          have y5:w9.cell? ⟨B,5,none⟩=some (.slice b3 y.l.args.length d3):=Y9.out.cell 5
          clear bm
          gi_wp2
          have bn:Hid (QV (w9.alloc (.cells #[.string d.2.name,.slice xa d.2.args.length xc,.string y.l.name,.slice b3 y.l.args.length d3] 31)) (λ_=>True) (.slice (some ⟨w9.heap.size,0,none⟩) 1 1) [⟨d.2,y.l⟩]):=Sa (Ac.new w9 _ _) ((dz.out.later aY.out).later ((Af _ _).alloc (Aj _) _)) (((aU.out bW.out).later aY.out).later ((Af _ _).alloc (Aj _) _))
          have bo:Below w9.heap.size w9 (w9.alloc (.cells #[.string d.2.name,.slice xa d.2.args.length xc,.string y.l.name,.slice b3 y.l.args.length d3] 31)):=(Af _ _).alloc (Aj _) _
          generalize (w9.alloc (.cells #[.string d.2.name,.slice xa d.2.args.length xc,.string y.l.name,.slice b3 y.l.args.length d3] 31))=c8 at *
          obtain⟨gq,bD⟩:=cN.out _ b8.out
          refine⟨trivial,(λh=>by simp[Fence.wide] at h),?_⟩
          refine(CallsIn.inRound _ (DN.2 (R8 [⟨d.2,y.l⟩] (U [⟨d.2,y.l⟩]) gq (λ_=>bD) _ c8 (λ_=>True) bn.out))).mono ?_
          rintro e aq c9
          clear bD x0 x1 y4 y5
          rcases c9 with ⟨hne,-,-⟩|⟨-,aK,cA⟩
          · exact absurd b8.out hne
          have aZ:Below V.heap.size V aq:=aY.out.trans ((bo.trans (aK.mono bo.size)).mono aY.out.size)
          have ae:=Aa aZ
          have ai:=Aa (aW.out.later aZ)
          have av:=Aa (aV.out.below aZ aV.out.lt)
          have B4:=Aa (ai.out.blk HJ.out.b4 aa.out.2.2.2.2.2.2.2.2.1)
          have B5:=Aa (ai.out.blk HJ.out.b5 aa.out.2.2.2.2.2.2.2.2.2)
          have bb:Hid (CS U (x,y) same d=(decide (C0 (U [⟨d.2,y.l⟩])≠0)&&decide (C0 (U [⟨d.2,y.l⟩])≠8))):=by have e1:=aI.out; have e2:=c7.out; unfold Hid CS; simp only[e1,e2,Bool.not_true,Bool.false_or]
          have bE:=B4.out.c0
          have bF:=B5.out.c0
          have bc:=aa.out.2.2.2.2.2.2.2.1
          have bG:=D6 bc
          have bH:=B4.out.frozen 0
          have bI:=B5.out.frozen 0
          have bJ:=B4.out.lt
          have bK:=B5.out.lt
          clear aZ aK bo
          rcases cA with ⟨hg,rfl⟩|⟨hg,hr,rfl⟩|⟨hg,hr,us,rfl,bp⟩
          · have aL:Hid (C0 (U [⟨d.2,y.l⟩])=8):=by unfold Hid C0; rw[As hg]
            clear hg
            gi_wp2
            exact IV aa.out HJ.out ai.out ⟨by rw[bb.out,aL.out]; rfl,Ad aL.out⟩
          · have ax:Hid (C0 (U [⟨d.2,y.l⟩])=(U [⟨d.2,y.l⟩]).1):=by unfold Hid C0; rw[An (by simp[hg])]
            by_cases h8:(U [⟨d.2,y.l⟩]).1=8
            · have aL:Hid (C0 (U [⟨d.2,y.l⟩])=8):=ax.out.trans h8
              rw[h8]
              clear hg hr h8 ax
              gi_wp2
              exact IV aa.out HJ.out ai.out ⟨by rw[bb.out,aL.out]; rfl,Ad aL.out⟩
            · have cB:Hid (CS U (x,y) same d=true):=by unfold Hid; rw[bb.out,ax.out]; simp[hr,h8]
              generalize (U [⟨d.2,y.l⟩]).1=er at *
              have hr2:(er==8)=false:=by simp[h8]
              have hr3:(er !=0)=true:=by simp[hr]
              clear hg ax
              gi_wp2
              exact JD aa.out HJ.out ai.out.1 ai.out.2.1 ai.out.2.2.1 ai.out.2.2.2 cB.out
          · have ax:Hid (C0 (U [⟨d.2,y.l⟩])=0):=by unfold Hid C0; rw[An (by simp[hg])]; exact hr
            have bq:Hid (CS U (x,y) same d=false):=by unfold Hid; rw[bb.out,ax.out]; rfl
            have br:=Aa bp
            obtain⟨sa,sc,cC,-⟩:=id bp
            subst cC
            have cD:=Aa hr
            clear hg hr bp
            have z0:=av.out.c0
            have z1:=av.out.c1
            have z2:=av.out.c2
            have z3:=av.out.c3
            have z4:aq.cell? ⟨B,4,none⟩=some (.string y.l.name):=av.out.cell 4
            have z5:aq.cell? ⟨B,5,none⟩=some (.slice b3 y.l.args.length d3):=av.out.cell 5
            have z6:aq.cell? ⟨B,6,none⟩=some (.string y.r.name):=av.out.cell 6
            have z7:aq.cell? ⟨B,7,none⟩=some (.slice b4 y.r.args.length d4):=av.out.cell 7
            clear bE bF bH bI bJ bK
            gi_wp2
            refine⟨trivial,(λh=>by simp[Fence.wide] at h),?_⟩
            refine(CallsIn.inRound _ (DN.2 (RL BT (U [⟨d.2,y.l⟩]).2 (cO.out _ b8.out cD.out) x y d.1 b1 b2 b3 b4 d1 d2 d3 d4 _ _ aq (λ_=>True) ((aU.out cq.out).later ae.out) ((aU.out cV.out).later ae.out) ((aU.out bW.out).later ae.out) ((aU.out cW.out).later ae.out) (cy.out.later ae.out) (br.out.mono λ_ _ _=>trivial) (by rw[cw.out]; rfl) (by have:=CC bz.out.1.1; omega) (dA.out.heap ae.out.size (λq hq=>ae.out.block q (by have h1:=aG.out; have h2:=aT.out; have h3:=ar.out; omega))) (by have h0:=ae.out.size; have h1:=aG.out; have h2:=aT.out; have h3:=ar.out; omega)))).mono ?_
            rintro e ah ⟨ay,aM⟩
            have aN:=Aa ay.size
            have az:=Aa (ae.out.trans (ay.mono ae.out.size))
            have ag:=Aa (aW.out.later az.out)
            clear ay z0 z1 z2 z3 z4 z5 z6 z7
            rcases aM with ⟨bL,rfl⟩|⟨hs1,hs2,y2,q1,e1,q2,e2,bM,rfl,bN,bO⟩
            · have bP:=Aa bL
              clear bL
              have aO:Hid (∀o,E9 W1 (wc.heap.size+4) rb (ah.alloc o)):=λo=>ag.out.alloc o
              have bE:∀o,(ah.alloc o).cell? ⟨R4,0,none⟩=some (.slice none 0 0):=λo=>((aO.out o).blk HJ.out.b4 aa.out.2.2.2.2.2.2.2.2.1).cell 0
              have bF:∀o,(ah.alloc o).cell? ⟨R5,0,none⟩=some (.int .i64 0):=λo=>((aO.out o).blk HJ.out.b5 aa.out.2.2.2.2.2.2.2.2.2).cell 0
              have bH:∀o,(ah.alloc o).frozen? ⟨R4,0,none⟩=false:=λo=>((aO.out o).blk HJ.out.b4 aa.out.2.2.2.2.2.2.2.2.1).frozen 0
              have bI:∀o,(ah.alloc o).frozen? ⟨R5,0,none⟩=false:=λo=>((aO.out o).blk HJ.out.b5 aa.out.2.2.2.2.2.2.2.2.2).frozen 0
              have bJ:R4<ah.heap.size:=(ag.out.blk HJ.out.b4 aa.out.2.2.2.2.2.2.2.2.1).lt
              have bK:R5<ah.heap.size:=(ag.out.blk HJ.out.b5 aa.out.2.2.2.2.2.2.2.2.2).lt
              have eh:=(ag.out.blk HJ.out.b4 aa.out.2.2.2.2.2.2.2.2.1).cell 0
              have ei:ah.cell? ⟨R5,0,none⟩=some (.int .i64 0):=(ag.out.blk HJ.out.b5 aa.out.2.2.2.2.2.2.2.2.2).cell 0
              have ej:=(ag.out.blk HJ.out.b4 aa.out.2.2.2.2.2.2.2.2.1).frozen 0
              have ek:=(ag.out.blk HJ.out.b5 aa.out.2.2.2.2.2.2.2.2.2).frozen 0
              gi_wp2
              first|exact Sg aa.out HJ.out ag.out _ ⟨bq.out,Ae bP.out⟩|exact IV aa.out HJ.out (aO.out _) ⟨bq.out,Ae bP.out⟩
            · have cE:=Aa bN
              have cF:=Aa bO
              have bQ:=Aa (And.intro hs1 hs2)
              have cG:=Aa bM
              clear bN bO hs1 hs2 bM
              obtain⟨va,vc,hv⟩:=DP cd.out.own
              subst hv
              have aP:(ah.alloc (.cells #[.string y2.l.name,.slice q1 y2.l.args.length e1,.string y2.r.name,.slice q2 y2.r.args.length e2] 31)).heap.size=ah.heap.size+1:=by simp
              have aQ:Below ah.heap.size ah (ah.alloc (.cells #[.string y2.l.name,.slice q1 y2.l.args.length e1,.string y2.r.name,.slice q2 y2.r.args.length e2] 31)):=(Af _ _).alloc (Aj _) _
              have bf:=Aa (Ac.new ah #[.string y2.l.name,.slice q1 y2.l.args.length e1,.string y2.r.name,.slice q2 y2.r.args.length e2] 31)
              have aj:=Aa (ag.out.later aQ)
              have bs:=Aa (az.out.trans (aQ.mono az.out.size))
              have bR:=Aa (cE.out.later aQ)
              have bS:=Aa (cF.out.later aQ)
              have a6:Hid (V.heap.size<=aq.heap.size/\aq.heap.size<=ah.heap.size):=⟨ae.out.size,aN.out⟩
              generalize aR:ah.alloc (.cells #[.string y2.l.name,.slice q1 y2.l.args.length e1,.string y2.r.name,.slice q2 y2.r.args.length e2] 31)=aC at *
              have bt:=Aa (aj.out.blk HJ.out.ba aa.out.2.2.2.2.2.2.1)
              obtain⟨v2,w3,hrun,bg,a7,hv2⟩:=MQ cd.out (by have h1:=aG.out; have h2:=aT.out; omega) (λ_ h=>h.elim) bs.out (y2,(q1,e1),(q2,e2)) ⟨bR.out.mono λb hb _=>Ae (by have:=a6.out; omega),bS.out.mono λb hb _=>Ae (by have:=a6.out; omega)⟩ dn.out (ah.heap.size+1) aP
              obtain⟨a8,aA,bT⟩:=DP bg.own
              rw[Dm,Ic]at bT
              subst bT
              simp only at hrun a7
              have hlv:=HJ.out.ow.lt
              have gk:∀b,b<aC.heap.size->(Value.slice va cs.length vc).ownBlock≠some b->w3.heap[b]? = aC.heap[b]? := λb hb hne=>(a7.block b (by simp; omega) (λe=>hne e.symm)).trans (AP _ _ _ hb)
              have hno:∀b,b<W5.heap.size->(Value.slice va cs.length vc).ownBlock≠some b:=λb hb e=>by have:=(hlv b e).1; omega
              have hD:=aa.out
              have cH:W1.heap.size<=aC.heap.size:=aj.out.1
              have A3:Ac w3 wc.heap.size #[.slice va cs.length vc] 22:=(gk _ bt.out.lt (hno _ hD.1)).trans bt.out
              have aB:Hid ((w3.setCell ⟨wc.heap.size,0,none⟩ (.slice a8 (cs.length+1) aA)).heap[wc.heap.size+4]? = some (.loop rb)/\∃f',JO U (x,y) same K wc.heap.size R4 R5 (wc.heap.size+4) r rd W5 (pre++[d]) true f' ((w3.setCell ⟨wc.heap.size,0,none⟩ (.slice a8 (cs.length+1) aA)).putObj (wc.heap.size+4) (.loop r))/\Al f W1 ((w3.setCell ⟨wc.heap.size,0,none⟩ (.slice a8 (cs.length+1) aA)).putObj (wc.heap.size+4) (.loop r))/\∀b,f' b->f b∨W1.heap.size<=b):=by
                have so:∀b,b≠wc.heap.size->(w3.setCell ⟨wc.heap.size,0,none⟩ (.slice a8 (cs.length+1) aA)).heap[b]? = w3.heap[b]? := λb hb=>Aq _ _ _ _ (by simpa using hb)
                have hz1:=aG.out
                have en:=aT.out
                have cI:=a6.out
                have eo:aC.heap.size<=w3.heap.size:=by have:=a7.size; simp at this; omega
                have nw : ∀ {a : Option Addr} {l : List Tm}, Sl aC (λb => aq.heap.size <= b) a l -> Sl (w3.setCell ⟨wc.heap.size, 0, none⟩ (.slice a8 (cs.length + 1) aA)) (λb => W1.heap.size <= b /\ some b ≠ (Value.slice a8 (cs.length + 1) aA).ownBlock) a l := λh => ((h.mono (Y := λb => aq.heap.size <= b /\ b < aC.heap.size) λb h1 h2 => ⟨h1, h2⟩).kept λb hb => (so b (by omega)).trans (gk b hb.2 (λe => by have := (hlv b e).2; omega))).mono λb hb _ => ⟨by omega, λe => by
                  rcases hv2 b e.symm with q|q
                  · have:=(hlv b q).2; omega
                  · omega⟩
                refine RO (V:=w3.setCell ⟨wc.heap.size,0,none⟩ (.slice a8 (cs.length+1) aA)) hD HJ.out (by simp[World.setCell]; omega) ⟨a7.os.trans aj.out.2.1.1,a7.tape.trans aj.out.2.1.2.1,a7.output.trans aj.out.2.1.2.2⟩ (λq h1 h2 h3 h4=>(so q h3).trans ((gk q (by omega) (λe=>h4 e.symm)).trans (aj.out.2.2.1 q h1 h2))) ((so _ (by omega)).trans ((gk _ (by omega) (hno _ hD.2.2.2.1)).trans aj.out.2.2.2)) (Ac.set1R A3) (y2,(q1,e1),(q2,e2)) (DG (by rw[Dm,Ic]; have h:=bg.own; rw[Dm,Ic] at h; exact h) λg hg=>so g (by have:=(bg.own.lt g hg).1; omega)) (λk hk=>by
                  rcases hv2 k hk with q|q
                  · exact Ad q
                  · exact Ae (by omega)) ⟨nw bR.out,nw bS.out⟩ bq.out cG.out (λhf=>?_)
                rcases hf.2 with q|q|q
                · have h1:=ax.out
                  have h2:C0 (U [⟨d.2,y.l⟩])=8:=q
                  omega
                · have h1:=bQ.out.1
                  have h2:2000<Ab [(EX (U [⟨d.2,y.l⟩]).2 x y d.1).l]:=q
                  omega
                · have h1:=bQ.out.2
                  have h2:2000<Ab [(EX (U [⟨d.2,y.l⟩]).2 x y d.1).r]:=q
                  omega
              have a0:=bt.out.c0
              have a3:=A3.c0
              have af:=A3.frozen 0
              have p0:=bf.out.c0
              have p1:=bf.out.c1
              have p2:=bf.out.c2
              have p3:=bf.out.c3
              have a1:ah.cell? ⟨wc.heap.size,0,none⟩=some (.slice va cs.length vc):=(ag.out.blk HJ.out.ba aa.out.2.2.2.2.2.2.1).cell 0
              have al:wc.heap.size<ah.heap.size:=(ag.out.blk HJ.out.ba aa.out.2.2.2.2.2.2.1).lt
              clear bg a7 hv2 hlv gk hno hD cH A3 aQ
              rw[<-aR]at a0 p0 p1 p2 p3 hrun
              have bu:=Aa hrun
              clear aR aP hrun
              gi_wp2_with (gi_at_builtin; refine Sf rfl _ _ _ _ rfl rfl rfl bu.out ?_)
              exact aB.out
    have hst:JO U (x,y) same K wc.heap.size R4 R5 (wc.heap.size+4) r rd W5 [] true (λq=>q=wc.heap.size+4∨q=wc.heap.size∨q=R4∨q=R5∨False) W5:=by
      refine⟨.slice none 0 0,[],λ_=>False,{ ky:=λq hq=>⟨by have:=(b6.out q).1 hq; omega,λh=>?_⟩,sz:=Aj _,kp:=λq _=>rfl,lp:=dT.out,b4:=cX.out.below aS.out cX.out.lt,b5:=cY.out.below aS.out cY.out.lt,ff:=λq=>Iff.rfl,fi:=λq h=>h.elim,fo:=λq h=>by simp[Value.ownBlock] at h,ba:=dP.out,ow:=Ga _ _ _ _,ro:=by simp,yes:=λ_=>⟨rfl,by simp⟩,no:=λh=>by cases h}⟩
      have h1:=(b6.out q).1 hq
      rcases h with h|h|h|h|h
      · omega
      · exact h1.2.1 h
      · exact h1.2.2.1 h
      · exact h1.2.2.2 h
      · exact h
    refine (Ws cv (wc.heap.size + 4) RH.toS x.l [] (wc.heap.size + 1) (wc.heap.size + 2) b1 d1 (.slice none 0 0) [] _ W5 (λq => W.heap.size <= q /\ q < wc.heap.size) dQ.out ((cq.out.mono λq h1 h2 => ⟨h1.1, h2⟩).later aS.out) dR.out ⟨none, 0, rfl, by simp, Ad rfl⟩ rfl (λq hq => ⟨by omega, λh => by
      have h2:=ar.out
      rcases h with h|h|h|h|h
      · omega
      · omega
      · omega
      · omega
      · exact h⟩) hst (by have:=CC bz.out.1.1; omega) (by simp)).mono ?_
    rintro e Wf ⟨bU,s,hw,-⟩
    obtain⟨m,f',hm,dC,hj,he,ep⟩:=hw
    rw[DY]at hj
    obtain⟨v,cs,F,hj⟩:=hj
    have cJ:=Aa bU
    have au:=Aa hj
    have ck:∀q,q<wc.heap.size+4->q≠wc.heap.size->q≠R4->q≠R5->Wf.heap[q]? = W5.heap[q]? := λq h1 h2 h3 h4=>hj.kp q ((b6.out q).2 ⟨h1,h2,h3,h4⟩)
    have e5:=Aa ck
    have aD:Hid (Wf.os=w.os/\Wf.tape=w.tape/\Wf.output=w.output):=⟨he.os.trans (aS.out.os.trans bC.out.os),he.tape.trans (aS.out.tape.trans bC.out.tape),he.output.trans (aS.out.output.trans bC.out.output)⟩
    have dD:Hid (Wf.heap[wc.heap.size+3]? = some (.deferred (some []))):=(ck _ (by omega) (by omega) (by have:=ar.out; omega) (by have:=ar.out; omega)).trans dS.out
    have dE:Hid (∀q,q<w.heap.size->Wf.heap[q]? = w.heap[q]?):=λq hq=>by
      have h2:=ar.out
      exact(ck q (by omega) (by omega) (by omega) (by omega)).trans ((aS.out.block q (by omega)).trans (bC.out.block q hq))
    have dF:Hid (m<=(AM [] [] x.l).length/\(s=true->m=(AM [] [] x.l).length)):=⟨hm,dC⟩
    clear he ep hst RH cv bU ck hm dC hj hr1 hr2 hr3 hr4 cr ct
    refine⟨cJ.out,?_⟩
    cases s with
    |true=>
      left
      refine⟨au.out.lp,?_⟩
      have bw:=Aa (au.out.yes rfl)
      have em:=dF.out.2 rfl
      subst em
      rw[EO]at bw
      clear dF
      have hD:=aa.out
      have h2:=ar.out
      obtain⟨va,vc,hv⟩:=DP au.out.ow
      subst hv
      have b4:=au.out.b4
      have b5:Ac Wf R5 #[.int .i64 0] 24:=au.out.b5
      have ba:=au.out.ba
      have et:=au.out.sz
      have hlv:=au.out.ow.lt
      have q4:∀o,(Wf.putObj (wc.heap.size+4) o).cell? ⟨R4,0,none⟩=some (.slice none 0 0):=λo=>(CM (World.putObj_heap_other (by simp; omega))).trans (b4.cell 0)
      have q5:∀o,(Wf.putObj (wc.heap.size+4) o).cell? ⟨R5,0,none⟩=some (.int .i64 0):=λo=>(CM (World.putObj_heap_other (by simp; omega))).trans (b5.cell 0)
      have qa:∀o,(Wf.putObj (wc.heap.size+4) o).cell? ⟨wc.heap.size,0,none⟩=some (.slice va cs.length vc):=λo=>(CM (World.putObj_heap_other (by simp))).trans (ba.cell 0)
      have p4:∀o,Ac (Wf.putObj (wc.heap.size+4) o) R4 #[.slice none 0 0] 22:=λo=>(World.putObj_heap_other (by omega)).trans b4
      have p5:∀o,Ac (Wf.putObj (wc.heap.size+4) o) R5 #[.int .i64 0] 24:=λo=>(World.putObj_heap_other (by omega)).trans b5
      have g4:∀o,(Wf.putObj (wc.heap.size+4) o).frozen? ⟨R4,0,none⟩=false:=λo=>(p4 o).frozen 0
      have g5:∀o,(Wf.putObj (wc.heap.size+4) o).frozen? ⟨R5,0,none⟩=false:=λo=>(p5 o).frozen 0
      have bc:R4≠R5:=by omega
      have bG:R5≠R4:=by omega
      have pf:∀(o o1:Obj) q,q≠wc.heap.size+4->q≠wc.heap.size+3->q≠R4->q≠R5->((((Wf.putObj (wc.heap.size+4) o).setCell ⟨R4,0,none⟩ (.slice va cs.length vc)).setCell ⟨R5,0,none⟩ (.int .i64 0)).putObj (wc.heap.size+3) o1).heap[q]? = Wf.heap[q]? := λo o1 q h9 h8 h1 h2=>by
        rw[World.putObj_heap_other h8,Aq _ _ _ _ (by simpa using h2),Aq _ _ _ _ (by simpa using h1),World.putObj_heap_other h9]
      have cK:Hid (∀o,(((Wf.putObj (wc.heap.size+4) o).setCell ⟨R4,0,none⟩ (.slice va cs.length vc)).setCell ⟨R5,0,none⟩ (.int .i64 0)).heap[wc.heap.size+3]? = some (.deferred (some []))):=λo=>by
        rw[Aq _ _ _ _ (by simp; omega),Aq _ _ _ _ (by simp; omega),World.putObj_heap_other (by omega)]
        exact dD.out
      have r4:∀(o o1:Obj),((((Wf.putObj (wc.heap.size+4) o).setCell ⟨R4,0,none⟩ (.slice va cs.length vc)).setCell ⟨R5,0,none⟩ (.int .i64 0)).putObj (wc.heap.size+3) o1).cell? ⟨R4,0,none⟩=some (.slice va cs.length vc):=λo o1=>by
        have h:Ac ((((Wf.putObj (wc.heap.size+4) o).setCell ⟨R4,0,none⟩ (.slice va cs.length vc)).setCell ⟨R5,0,none⟩ (.int .i64 0)).putObj (wc.heap.size+3) o1) R4 #[.slice va cs.length vc] 22:=(World.putObj_heap_other (by omega)).trans ((Ac.set1R (p4 o)).setOther _ _ (by omega))
        exact h.cell 0
      have r5:∀(o o1:Obj),((((Wf.putObj (wc.heap.size+4) o).setCell ⟨R4,0,none⟩ (.slice va cs.length vc)).setCell ⟨R5,0,none⟩ (.int .i64 0)).putObj (wc.heap.size+3) o1).cell? ⟨R5,0,none⟩=some (.int .i64 0):=λo o1=>by
        have h:Ac ((((Wf.putObj (wc.heap.size+4) o).setCell ⟨R4,0,none⟩ (.slice va cs.length vc)).setCell ⟨R5,0,none⟩ (.int .i64 0)).putObj (wc.heap.size+3) o1) R5 #[.int .i64 0] 24:=(World.putObj_heap_other (by omega)).trans (Ac.set1R ((p5 o).setOther _ _ (by omega)))
        exact h.cell 0
      have aB:Hid (∀(o o1:Obj),La U oa nb same w (.returned (.tuple #[.slice va cs.length vc,.int .i64 0])) ((((Wf.putObj (wc.heap.size+4) o).setCell ⟨R4,0,none⟩ (.slice va cs.length vc)).setCell ⟨R5,0,none⟩ (.int .i64 0)).putObj (wc.heap.size+3) o1)):=λo o1=>by
        have kk:∀ {a:Option Addr} {l:List Tm},Sl Wf (λb=>F b/\some b≠(Value.slice va cs.length vc).ownBlock) a l->Sl ((((Wf.putObj (wc.heap.size+4) o).setCell ⟨R4,0,none⟩ (.slice va cs.length vc)).setCell ⟨R5,0,none⟩ (.int .i64 0)).putObj (wc.heap.size+3) o1) (λb=>False∨(w.heap.size<=b/\some b≠(Value.slice va cs.length vc).ownBlock)) a l:=λh=>(h.kept λq hq=>by
          have h3:=au.out.fi q hq.1
          exact pf o o1 q (by omega) (by omega) (by omega) (by omega)).mono λq hq _=>Ae ⟨by have h3:=au.out.fi q hq.1; omega,hq.2⟩
        refine⟨⟨aD.out.1,aD.out.2.1,aD.out.2.2,by simp[World.setCell]; omega,λq hq=>(pf o o1 q (by omega) (by omega) (by omega) (by omega)).trans (dE.out q hq)⟩,Ad ?_⟩
        unfold IR
        rw[<-cp.out]
        exact⟨bw.out.2,_,cs,rfl,⟨Mn (DG au.out.ow λg hg=>by have h3:=hlv g hg; exact pf o o1 g (by omega) (by omega) (by omega) (by omega)) (by omega),λz hz=>⟨kk (au.out.ro z hz).1,kk (au.out.ro z hz).2⟩⟩,bw.out.1⟩
      clear pf hlv b4 b5 ba p4 p5 h2 hD
      gi_wp2
      refine⟨by simp,.inl ⟨_,_,rfl,run_takeDeferred (cK.out _),?_⟩⟩
      exact⟨.tuple #[.slice va cs.length vc,.int .i64 0],by simp[results,Tryz.results20,go_sem,r4,r5],aB.out _ _⟩
    |false=>
      right
      refine⟨by rw[<-cu]; exact au.out.lp,?_⟩
      have h2:=ar.out
      have b4:=au.out.b4
      have b5:Ac Wf R5 #[.int .i64 8] 24:=au.out.b5
      have et:=au.out.sz
      have pf:∀(o o1:Obj) q,q≠wc.heap.size+4->q≠wc.heap.size+3->((Wf.putObj (wc.heap.size+4) o).putObj (wc.heap.size+3) o1).heap[q]? = Wf.heap[q]? := λo o1 q h9 h8=>(World.putObj_heap_other h8).trans (World.putObj_heap_other h9)
      have cK:Hid (∀o,(Wf.putObj (wc.heap.size+4) o).heap[wc.heap.size+3]? = some (.deferred (some []))):=λo=>(World.putObj_heap_other (by omega)).trans dD.out
      have r4:∀(o o1:Obj),((Wf.putObj (wc.heap.size+4) o).putObj (wc.heap.size+3) o1).cell? ⟨R4,0,none⟩=some (.slice none 0 0):=λo o1=>(CM (pf o o1 _ (by simp; omega) (by simp; omega))).trans (b4.cell 0)
      have r5:∀(o o1:Obj),((Wf.putObj (wc.heap.size+4) o).putObj (wc.heap.size+3) o1).cell? ⟨R5,0,none⟩=some (.int .i64 8):=λo o1=>(CM (pf o o1 _ (by simp; omega) (by simp; omega))).trans (b5.cell 0)
      have aB:Hid (∀(o o1:Obj),La U oa nb same w (.returned (.tuple #[.slice none 0 0,.int .i64 8])) ((Wf.putObj (wc.heap.size+4) o).putObj (wc.heap.size+3) o1)):=λo o1=>by
        refine⟨⟨aD.out.1,aD.out.2.1,aD.out.2.2,by simp; omega,λq hq=>(pf o o1 q (by omega) (by omega)).trans (dE.out q hq)⟩,Ae ⟨?_,rfl⟩⟩
        rw[<-cp.out]
        obtain⟨c,hc,h⟩:=au.out.no rfl
        exact⟨c,List.mem_of_mem_take hc,h⟩
      gi_wp2
      refine⟨by simp,.inl ⟨_,_,rfl,run_takeDeferred (cK.out _),?_⟩⟩
      exact⟨.tuple #[.slice none 0 0,.int .i64 8],by simp[results,Tryz.results20,go_sem,r4,r5],aB.out _ _⟩
end Go.Proofs.YtlkeafenklamjaaGreatDoor
