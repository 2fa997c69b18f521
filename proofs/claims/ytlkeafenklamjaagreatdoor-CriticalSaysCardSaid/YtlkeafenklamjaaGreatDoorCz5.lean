import Derived.Test.YtlkeafenklamjaaGreatDoorCz3
namespace Go.Proofs.YtlkeafenklamjaaGreatDoor
set_option linter.all false
set_option maxRecDepth 20000
set_option maxHeartbeats 8000000
open Go.RowKit
structure Fr (A B:Pr) (ps:List (List Int)) (a1 a2 a3 a4:Option Addr) (c1 c2 c3 c4 BA BB g7:Nat) (fv:Nat->Value) (W0 w':World):Prop where
 ka:Ac w' BA #[.string A.l.name,.slice a1 A.l.args.length c1,.string A.r.name,.slice a2 A.r.args.length c2] 31
 kb:Ac w' BB #[.string B.l.name,.slice a3 B.l.args.length c3,.string B.r.name,.slice a4 B.r.args.length c4] 31
 s1:Sl w' (λb=>b<W0.heap.size) a1 A.l.args
 s2:Sl w' (λb=>b<W0.heap.size) a2 A.r.args
 s3:Sl w' (λb=>b<W0.heap.size) a3 B.l.args
 s4:Sl w' (λb=>b<W0.heap.size) a4 B.r.args
 pl:∀i (h:i<ps.length),w'.cell? ⟨g7,i,none⟩=some (fv i)/\PV w' (λb=>b<W0.heap.size) (fv i) ps[i]
 bl:Below W0.heap.size W0 w'
theorem jT {A B:Pr} {ps:List (List Int)} {a1 a2 a3 a4:Option Addr} {c1 c2 c3 c4 BA BB g7:Nat} {fv:Nat->Value} {W0:World} (h:Fr A B ps a1 a2 a3 a4 c1 c2 c3 c4 BA BB g7 fv W0 W0) (hg:g7<W0.heap.size):Dr (Fr A B ps a1 a2 a3 a4 c1 c2 c3 c4 BA BB g7 fv W0) W0:=λw' hb=>
 ⟨h.ka.below hb h.ka.lt,h.kb.below hb h.kb.lt,h.s1.later hb,h.s2.later hb,h.s3.later hb,h.s4.later hb,λi hi=>⟨(hb.cell (p:=⟨g7,i,none⟩) hg).trans (h.pl i hi).1,(h.pl i hi).2.later hb⟩,hb⟩
def Nv (x:Tm) (W0 wr:World) (o okv:Value) (wc:World):Prop:=
 ∃(B9:Nat) (a9:Option Addr) (c9:Nat),o=.pointer (some ⟨B9,0,none⟩)/\okv=.bool true/\Ac wc B9 #[.string x.name,.slice a9 x.args.length c9] 29/\Sl wc (λb=>b<W0.heap.size) a9 x.args/\Below wr.heap.size wr wc
theorem jU {x:Tm} {W0 w w1:World} {a9:Option Addr} {c9:Nat} (hb:Below w.heap.size w w1) (hs:Sl w1 (λb=>b<W0.heap.size) a9 x.args):
  Nv x W0 w (.pointer (some ⟨w1.heap.size,0,none⟩)) (.bool true) (w1.alloc (.cells #[.string x.name,.slice a9 x.args.length c9] 29)):=
 ⟨w1.heap.size,a9,c9,rfl,rfl,Ac.new w1 _ _,hs.later ((Af _ _).alloc (Aj _) _),hb.alloc hb.size _⟩
theorem jV {x:Tm} {W0 w w1:World} {a9:Option Addr} {c9:Nat} (h0:W0.heap.size<=w.heap.size) (hb:Below w.heap.size w w1) (hz:Ac w1 w.heap.size #[.string ⟨#[]⟩,.slice none 0 0] 29) (hs:Sl w1 (λb=>b<W0.heap.size) a9 x.args):
  Below w.heap.size w ((w1.setCell ⟨w.heap.size,0,none⟩ (.string x.name)).setCell ⟨w.heap.size,1,none⟩ (.slice a9 x.args.length c9))/\Nv x W0 w (.pointer (some ⟨w.heap.size,0,none⟩)) (.bool true) ((w1.setCell ⟨w.heap.size,0,none⟩ (.string x.name)).setCell ⟨w.heap.size,1,none⟩ (.slice a9 x.args.length c9)):=by
 have hb2:Below w.heap.size w ((w1.setCell ⟨w.heap.size,0,none⟩ (.string x.name)).setCell ⟨w.heap.size,1,none⟩ (.slice a9 x.args.length c9)):=(hb.setCell (by simp) _).setCell (by simp) _
 refine⟨hb2,w.heap.size,a9,c9,rfl,rfl,(hz.set 0 _).set 1 _,hs.kept λb hb=>?_,hb2⟩
 rw[Aq _ _ _ _ (by simp; omega),Aq _ _ _ _ (by simp; omega)]
def FK (Y:Nat->Prop) (t:Tm) (s1:ByteArray) (a1:Option Addr) (n1 c1:Nat) (okb:Bool) (w':World):Prop:=
 (okb=false/\2000<Ab [t])∨(okb=true/\Ab [t]<=2000/\s1=t.name/\n1=t.args.length/\Sl w' Y a1 t.args)
theorem FK.imp {Y Z:Nat->Prop} {t:Tm} {s1:ByteArray} {a1:Option Addr} {n1 c1:Nat} {aa:Bool} {w w':World} (h:FK Y t s1 a1 n1 c1 aa w) (k:Sl w Y a1 t.args->Sl w' Z a1 t.args):FK Z t s1 a1 n1 c1 aa w':=by
 rcases h with h|⟨h1,h2,h3,h4,h5⟩
 ·exact Ad h
 ·exact Ae ⟨h1,h2,h3,h4,k h5⟩
theorem Lr {X Y:Nat->Prop} {t:Tm} {s1:ByteArray} {a1:Option Addr} {n1 c1:Nat} {aa:Bool} {w w':World} (h:RQ X t s1 a1 n1 c1 aa w w') (k:∀b,(X b/\b<w.heap.size)∨w.heap.size<=b->Y b):FK Y t s1 a1 n1 c1 aa w':=by
 rcases h with h|⟨h1,h2,h3,h4,h5⟩
 ·exact Ad h
 ·exact Ae ⟨h1,h2,h3,h4,h5.mono λb hb _=>k b hb⟩
def Nw (x:Tm) (wr:World) (o okv:Value) (wc:World):Prop:=
 ∃(B9:Nat) (s9:ByteArray) (a9:Option Addr) (n9 c9:Nat) (okb:Bool),o=.pointer (some ⟨B9,0,none⟩)/\okv=.bool okb/\Ac wc B9 #[.string s9,.slice a9 n9 c9] 29/\FK (λ_=>True) x s9 a9 n9 c9 okb wc/\Below wr.heap.size wr wc
theorem jW {x:Tm} {w w1:World} {s9:ByteArray} {a9:Option Addr} {n9 c9:Nat} {aa:Bool} (hb:Below w.heap.size w w1) (hs:FK (λ_=>True) x s9 a9 n9 c9 aa w1):
  Nw x w (.pointer (some ⟨w1.heap.size,0,none⟩)) (.bool aa) (w1.alloc (.cells #[.string s9,.slice a9 n9 c9] 29)):=
 ⟨w1.heap.size,s9,a9,n9,c9,aa,rfl,rfl,Ac.new w1 _ _,hs.imp λh=>h.later ((Af _ _).alloc (Aj _) _),hb.alloc hb.size _⟩
theorem TX {x:Tm} {w w1:World} {Bz:Nat} {s9:ByteArray} {a9:Option Addr} {n9 c9:Nat} {aa:Bool} (h0:w.heap.size<=Bz) (hb:Below w.heap.size w w1) (hz:Ac w1 Bz #[.string ⟨#[]⟩,.slice none 0 0] 29) (hs:FK (λb=>b≠Bz) x s9 a9 n9 c9 aa w1):
  Below w.heap.size w ((w1.setCell ⟨Bz,0,none⟩ (.string s9)).setCell ⟨Bz,1,none⟩ (.slice a9 n9 c9))/\Nw x w (.pointer (some ⟨Bz,0,none⟩)) (.bool aa) ((w1.setCell ⟨Bz,0,none⟩ (.string s9)).setCell ⟨Bz,1,none⟩ (.slice a9 n9 c9)):=by
 have hb2:Below w.heap.size w ((w1.setCell ⟨Bz,0,none⟩ (.string s9)).setCell ⟨Bz,1,none⟩ (.slice a9 n9 c9)):=(hb.setCell (by simpa using h0) _).setCell (by simpa using h0) _
 refine⟨hb2,Bz,s9,a9,n9,c9,aa,rfl,rfl,(hz.set 0 _).set 1 _,hs.imp λh=>(h.kept λb hb=>?_).mono λ_ _ _=>trivial,hb2⟩
 rw[Aq _ _ _ _ (by simpa using hb),Aq _ _ _ _ (by simpa using hb)]
def Nx (o n:Pr) (same:Bool) (W0:World) (v i:Value) (wr:World):Prop:=
 ∃(k:Nat) (cs:List Pc),k<=(AM [] [] (Av o n).1.l).length/\i=.int .i64 (k:Int)/\Cx wr W0.heap.size (λ_=>False) v cs/\cs.map (·.1)=((AM [] [] (Av o n).1.l).take k).filterMap (Eg AC (Av o n) same)/\(∀d∈(AM [] [] (Av o n).1.l).take k,¬Dk AC (Av o n) same d)/\Below W0.heap.size W0 wr
theorem jX {o n:Pr} {same:Bool} {k:Nat} (hk:k<(AM [] [] (Av o n).1.l).length) (h:CS AC (Av o n) same (AM [] [] (Av o n).1.l)[k]=true):
  ((AM [] [] (Av o n).1.l).take (k+1)).filterMap (Eg AC (Av o n) same)=((AM [] [] (Av o n).1.l).take k).filterMap (Eg AC (Av o n) same)/\((∀d∈(AM [] [] (Av o n).1.l).take k,¬Dk AC (Av o n) same d)->∀d∈(AM [] [] (Av o n).1.l).take (k+1),¬Dk AC (Av o n) same d):=by
 generalize AM [] [] (Av o n).1.l=L at *
 rw[Bm hk,Lu]
 refine⟨?_,λhf d hd=>?_⟩
 ·have e:[L[k]].filterMap (Eg AC (Av o n) same)=[]:=by simp[Eg,h]
  rw[e,List.append_nil]
 ·rcases Bg.1 hd with hd|hd
  ·exact hf d hd
  ·rw[Gf.1 hd]
   intro q
   have:=q.1
   rw[h]at this
   cases this
theorem jY {o n:Pr} {same:Bool} {k:Nat} (hk:k<(AM [] [] (Av o n).1.l).length) (h:CS AC (Av o n) same (AM [] [] (Av o n).1.l)[k]=false) (hn:¬Dk AC (Av o n) same (AM [] [] (Av o n).1.l)[k]):
  ((AM [] [] (Av o n).1.l).take (k+1)).filterMap (Eg AC (Av o n) same)=((AM [] [] (Av o n).1.l).take k).filterMap (Eg AC (Av o n) same)++[Dz (DT AC (Av o n) (AM [] [] (Av o n).1.l)[k])]/\((∀d∈(AM [] [] (Av o n).1.l).take k,¬Dk AC (Av o n) same d)->∀d∈(AM [] [] (Av o n).1.l).take (k+1),¬Dk AC (Av o n) same d):=by
 generalize AM [] [] (Av o n).1.l=L at *
 rw[Bm hk,Lu]
 refine⟨?_,λhf d hd=>?_⟩
 ·have e:[L[k]].filterMap (Eg AC (Av o n) same)=[Dz (DT AC (Av o n) L[k])]:=by simp[Eg,h]
  rw[e]
 ·rcases Bg.1 hd with hd|hd
  ·exact hf d hd
  ·rw[Gf.1 hd]; exact hn
theorem jZ {w:World} {B T:Nat} {l r:Tm} {a1 a2:Option Addr} {c1 c2:Nat} (h:Ac w B #[.string l.name,.slice a1 l.args.length c1,.string r.name,.slice a2 r.args.length c2] T) (h1:Sl w (λ_=>True) a1 l.args) (h2:Sl w (λ_=>True) a2 r.args):QV w (λ_=>True) (.slice (some ⟨B,0,none⟩) 1 1) [⟨l,r⟩]:=by
 refine⟨_,1,by simp,⟨by simp,by simp⟩,Ae ⟨B,0,rfl,trivial,λi hi=>?_⟩⟩
 have e:i=0:=by simp at hi; exact hi
 subst e
 exact⟨a1,c1,a2,c2,h.cell 0,h.cell 1,h.cell 2,h.cell 3,h1,h2⟩
theorem TY {w:World} {N M:Nat} {v:Value} {cs:List Pc} (h:Cx w N (λ_=>False) v cs) (hM:M<=N):Cx w M (λ_=>False) v cs:=
 ⟨Pd h.own hM,λx hx=>⟨(h.row x hx).1.mono λb hb _=>Ae (by have:=hb.resolve_left id; exact⟨by omega,this.2⟩),(h.row x hx).2.mono λb hb _=>Ae (by have:=hb.resolve_left id; exact⟨by omega,this.2⟩)⟩⟩
theorem Lq.size {o n:Pr} {d:Dn} {x:Tm} (h:Lq o n d x):Ab [x]<=2000/\Ab [(Dl 81 n).l]<=2000:=by
 obtain⟨h1,_,hU,_⟩:=HH h.pe
 exact hU.size ⟨x,(Dl 81 n).l⟩ (by simp)
theorem kA {w:World} {X:Nat->Prop} {a:Option Addr} {f x:Tm} (h:Sl w X a [f,x]):∃b o a1 c1 a2 c2,a=some ⟨b,o,none⟩/\b<w.heap.size/\w.cell? ⟨b,o,none⟩=some (.string f.name)/\w.cell? ⟨b,o+1,none⟩=some (.slice a1 f.args.length c1)/\w.cell? ⟨b,o+2,none⟩=some (.string x.name)/\w.cell? ⟨b,o+3,none⟩=some (.slice a2 x.args.length c2)/\Sl w X a1 f.args/\Sl w X a2 x.args:=by
 obtain⟨s,l⟩:=f
 obtain⟨s2,l2⟩:=x
 obtain⟨_,h|⟨b,o,rfl,h⟩⟩:=h
 ·cases h
 ·simp only[C3] at h
  obtain⟨_,h1,⟨a1,c1,h2,h3⟩,_,h4,⟨a2,c2,h5,h6⟩,_⟩:=h
  exact⟨b,o,a1,c1,a2,c2,rfl,D9 h1,h1,h2,h4,h5,h3,h6⟩
theorem kB (o n:Pr) (ho:Bt o=0) (hn:Bt n=0) (same:Bool) (x1 x2 x3 x4:Option Addr) (k1 k2 k3 k4:Nat) (w:World) (X:Nat->Prop) (h1:Sl w X x1 o.l.args) (h2:Sl w X x2 o.r.args) (h3:Sl w X x3 n.l.args) (h4:Sl w X x4 n.r.args):
  Calls Tryz.prog 17 #[.agg #[.string o.l.name,.slice x1 o.l.args.length k1,.string o.r.name,.slice x2 o.r.args.length k2],.agg #[.string n.l.name,.slice x3 n.l.args.length k3,.string n.r.name,.slice x4 n.r.args.length k4],.bool same] w λe w'=>La AC o n same w e w':=by
 have HO:=Aa ho
 have HN:=Aa hn
 have H1:=Aa h1
 have H2:=Aa h2
 have H3:=Aa h3
 have H4:=Aa h4
 obtain⟨zo,dc,zn,df⟩:Ab [o.l]<=200/\Ab [o.r]<=200/\Ab [n.l]<=200/\Ab [n.r]<=200:=by
  obtain⟨q1,q2,-,-⟩:=Ep ho
  obtain⟨q3,q4,-,-⟩:=Ep hn
  exact⟨CC q1,CC q2,CC q3,CC q4⟩
 clear h1 h2 h3 h4 ho hn
 go_enter Tryz.func17,Tryz.ntmps17
 go_wp2_with fail
 have aM:Hid (Below w.heap.size w ((w.alloc (.cells #[.string o.l.name,.slice x1 o.l.args.length k1,.string o.r.name,.slice x2 o.r.args.length k2] 31)).alloc (.cells #[.string n.l.name,.slice x3 n.l.args.length k3,.string n.r.name,.slice x4 n.r.args.length k4] 31))):=CO _ _
 have hNb:Ac ((w.alloc (.cells #[.string o.l.name,.slice x1 o.l.args.length k1,.string o.r.name,.slice x2 o.r.args.length k2] 31)).alloc (.cells #[.string n.l.name,.slice x3 n.l.args.length k3,.string n.r.name,.slice x4 n.r.args.length k4] 31)) (w.heap.size+1) #[.string n.l.name,.slice x3 n.l.args.length k3,.string n.r.name,.slice x4 n.r.args.length k4] 31:=by
  have h:=Ac.new (w.alloc (.cells #[.string o.l.name,.slice x1 o.l.args.length k1,.string o.r.name,.slice x2 o.r.args.length k2] 31)) #[.string n.l.name,.slice x3 n.l.args.length k3,.string n.r.name,.slice x4 n.r.args.length k4] 31
  rw[CN]at h
  exact h
 generalize (w.alloc (.cells #[.string o.l.name,.slice x1 o.l.args.length k1,.string o.r.name,.slice x2 o.r.args.length k2] 31)).alloc (.cells #[.string n.l.name,.slice x3 n.l.args.length k3,.string n.r.name,.slice x4 n.r.args.length k4] 31)=W at *
 obtain⟨QB,cj⟩:∃QB,QB=w.heap.size+1:=⟨_,rfl⟩
 rw[<-cj]at hNb ⊢
 clear cj
 refine(TH 80 o x1 x2 k1 k2 W X (H1.out.later aM.out) (H2.out.later aM.out) (by omega) (by omega)).mono ?_
 rintro e w1 ⟨A,a1,c1,a2,c2,hA,rfl,s1,s2,hb1⟩
 have aN:Hid (Below w.heap.size w (w1.alloc (.cells #[.string A.l.name,.slice a1 A.l.args.length c1,.string A.r.name,.slice a2 A.r.args.length c2] 31))):=(aM.out.trans (hb1.mono aM.out.size)).alloc (aM.out.trans (hb1.mono aM.out.size)).size _
 have bF:Below w1.heap.size w1 (w1.alloc (.cells #[.string A.l.name,.slice a1 A.l.args.length c1,.string A.r.name,.slice a2 A.r.args.length c2] 31)):=(Af _ _).alloc (Aj _) _
 have S1:=Aa (s1.later bF)
 have S2:=Aa (s2.later bF)
 have KA:=Aa (Ac.new w1 #[.string A.l.name,.slice a1 A.l.args.length c1,.string A.r.name,.slice a2 A.r.args.length c2] 31)
 have bm:Ac (w1.alloc (.cells #[.string A.l.name,.slice a1 A.l.args.length c1,.string A.r.name,.slice a2 A.r.args.length c2] 31)) QB #[.string n.l.name,.slice x3 n.l.args.length k3,.string n.r.name,.slice x4 n.r.args.length k4] 31:=(hNb.below hb1 hNb.lt).alloc _
 have n0:(w1.alloc (.cells #[.string A.l.name,.slice a1 A.l.args.length c1,.string A.r.name,.slice a2 A.r.args.length c2] 31)).cell? ⟨QB,0,none⟩=some (.string n.l.name):=bm.cell 0
 have n1:(w1.alloc (.cells #[.string A.l.name,.slice a1 A.l.args.length c1,.string A.r.name,.slice a2 A.r.args.length c2] 31)).cell? ⟨QB,1,none⟩=some (.slice x3 n.l.args.length k3):=bm.cell 1
 have n2:(w1.alloc (.cells #[.string A.l.name,.slice a1 A.l.args.length c1,.string A.r.name,.slice a2 A.r.args.length c2] 31)).cell? ⟨QB,2,none⟩=some (.string n.r.name):=bm.cell 2
 have n3:(w1.alloc (.cells #[.string A.l.name,.slice a1 A.l.args.length c1,.string A.r.name,.slice a2 A.r.args.length c2] 31)).cell? ⟨QB,3,none⟩=some (.slice x4 n.r.args.length k4):=bm.cell 3
 have bo:=Aa hA
 clear hA hNb s1 s2 hb1 bF bm
 go_wp2_with fail
 generalize w1.alloc (.cells #[.string A.l.name,.slice a1 A.l.args.length c1,.string A.r.name,.slice a2 A.r.args.length c2] 31)=wa at *
 obtain⟨BA,ck⟩:∃BA,BA=w1.heap.size:=⟨_,rfl⟩
 rw[<-ck]at KA ⊢
 clear ck n0 n1 n2 n3
 refine(TH 81 n x3 x4 k3 k4 wa X (H3.out.later aN.out) (H4.out.later aN.out) (by omega) (by omega)).mono ?_
 rintro e w2 ⟨B,a3,c3,a4,c4,hB,rfl,s3,s4,hb2⟩
 have bG:Hid (Below w.heap.size w (w2.alloc (.cells #[.string B.l.name,.slice a3 B.l.args.length c3,.string B.r.name,.slice a4 B.r.args.length c4] 31))):=(aN.out.trans (hb2.mono aN.out.size)).alloc (aN.out.trans (hb2.mono aN.out.size)).size _
 have b9:Below wa.heap.size wa (w2.alloc (.cells #[.string B.l.name,.slice a3 B.l.args.length c3,.string B.r.name,.slice a4 B.r.args.length c4] 31)):=hb2.alloc hb2.size _
 have bH:Below w2.heap.size w2 (w2.alloc (.cells #[.string B.l.name,.slice a3 B.l.args.length c3,.string B.r.name,.slice a4 B.r.args.length c4] 31)):=(Af _ _).alloc (Aj _) _
 have S3:=Aa (s3.later bH)
 have S4:=Aa (s4.later bH)
 have bI:=Aa (S1.out.later b9)
 have cm:=Aa (S2.out.later b9)
 have KB:=Aa (Ac.new w2 #[.string B.l.name,.slice a3 B.l.args.length c3,.string B.r.name,.slice a4 B.r.args.length c4] 31)
 have bp:=Aa (KA.out.below b9 KA.out.lt)
 have j0:(w2.alloc (.cells #[.string B.l.name,.slice a3 B.l.args.length c3,.string B.r.name,.slice a4 B.r.args.length c4] 31)).cell? ⟨BA,0,none⟩=some (.string A.l.name):=bp.out.cell 0
 have j1:(w2.alloc (.cells #[.string B.l.name,.slice a3 B.l.args.length c3,.string B.r.name,.slice a4 B.r.args.length c4] 31)).cell? ⟨BA,1,none⟩=some (.slice a1 A.l.args.length c1):=bp.out.cell 1
 have cp:=Aa hB
 clear hB s3 s4 hb2 b9 bH S1 S2 KA
 go_wp2_with fail
 generalize w2.alloc (.cells #[.string B.l.name,.slice a3 B.l.args.length c3,.string B.r.name,.slice a4 B.r.args.length c4] 31)=wb at *
 obtain⟨BB,cq⟩:∃BB,BB=w2.heap.size:=⟨_,rfl⟩
 rw[<-cq]at KB ⊢
 clear cq j0 j1
 have aj:=Aa (S8 HO.out HN.out)
 have aO:Hid (Bq A.l=(AM [] [] (Av o n).1.l).map (·.1)):=by
  unfold Hid
  rw[bo.out,<-aj.out.1.1,jN]
  exact jL _ _
 have aZ:Hid (Ab [A.l]<=200):=by
  unfold Hid
  rw[bo.out,<-aj.out.1.1]
  show Ab [AJ _ _]<=200
  rw[F4]
  obtain⟨q1,q2,-,-⟩:=Ep HO.out
  obtain⟨q3,q4,-,-⟩:=Ep HN.out
  exact CC (IQ ⟨q1,q2⟩ ⟨q3,q4⟩).1.1
 have ar:Hid (Ab [A.r]<=200/\Ab [B.r]<=200):=by
  unfold Hid
  rw[bo.out,cp.out,<-aj.out.1.1,<-aj.out.1.2]
  show Ab [AJ _ _]<=200/\Ab [AJ _ _]<=200
  rw[F4,F4]
  obtain⟨q1,q2,-,-⟩:=Ep HO.out
  obtain⟨q3,q4,-,-⟩:=Ep HN.out
  exact⟨CC (IQ ⟨q1,q2⟩ ⟨q3,q4⟩).1.2,CC (IQ ⟨q1,q2⟩ ⟨q3,q4⟩).2.2⟩
 have cR:Hid (Bq A.l≠[]):=by unfold Hid Bq; simp
 have cr:=aZ.out
 refine(Pe A.l _ wb (λ_=>True) ⟨_,_,rfl,bI.out⟩ (by omega)).mono ?_
 rintro e W0 ⟨v7,ct,rfl,aB,aC,hb0⟩
 obtain⟨g7,cS,rfl,cT,bq,aD⟩:=EA aB (by simp[Bq])
 have A0:Hid (Dr (Fr A B (Bq A.l) a1 a2 a3 a4 c1 c2 c3 c4 BA BB g7 (λi=>(ct[i]?).getD (.bool false)) W0) W0):=by
  have lt:∀ {a:Option Addr} {l:List Tm},Sl wb (λ_=>True) a l->Sl W0 (λb=>b<W0.heap.size) a l:=fun {a l} h=>(h.later hb0).mono λ_ _ h=>h
  refine jT ⟨bp.out.below hb0 bp.out.lt,KB.out.below hb0 KB.out.lt,lt bI.out,lt cm.out,lt S3.out,lt S4.out,λi hi=>?_,Af _ _⟩ bq
  obtain⟨u,h1,h2⟩:=aC.get i hi
  simp only[h1,Option.getD_some]
  exact⟨aD i u h1,h2.mono λb hx h=>h⟩
 have au:Hid (Below w.heap.size w W0):=bG.out.trans (hb0.mono bG.out.size)
 have cu:Hid ((Bq A.l).length<=200):=by unfold Hid; rw[L2]; exact cr
 have aF:Hid ((Bq A.l).length=(AM [] [] (Av o n).1.l).length):=by unfold Hid; rw[aO.out]; simp
 generalize (λi=>(ct[i]?).getD (.bool false):Nat->Value)=fv at *
 clear aB aC hb0 aD cT bq bI cm S3 S4 bp KB bG aN aM H1 H2 H3 H4 cr
 have cU:Hid (∀k (hk:k<(AM [] [] (Av o n).1.l).length),Lq o n (AM [] [] (Av o n).1.l)[k] (AJ (C2 o n) (AM [] [] (Av o n).1.l)[k].2)):=λk hk=>jS HO.out HN.out (AV hk)
 obtain⟨ps,cw⟩:∃ps,ps=Bq A.l:=⟨_,rfl⟩
 rw[<-cw]at A0 aO cu aF cR ⊢
 clear cw aj
 go_wp2_with fail
 go_loopw [11,12] (λv i wr=>Nx o n same W0 v i wr) (λv i wr=>ps.length-(intOf i).toNat)
 case atStart=>exact⟨0,[],AE _,rfl,Cx.start _ _ _,by simp,by simp,Af _ _⟩
 case round=>
  obtain⟨k,cs,hk,rfl,hrow,hcs,cx,hb⟩:=hrel
  obtain⟨va,vc,rfl⟩:=DP hrow.own
  have aP:=Aa hrow
  have aQ:=Aa hcs
  have ba:=Aa cx
  have HB:=Aa hb
  rw[<-aF.out]at hk
  clear hrow hcs cx hb
  by_cases hlt:k<ps.length
  ·have bJ:(k:Int)<(ps.length:Int):=by omega
   have cy:k<=200:=by have:=cu.out; omega
   have A1:Hid (Dr (Fr A B ps a1 a2 a3 a4 c1 c2 c3 c4 BA BB g7 fv W0) wr):=A0.out.later HB.out
   have bb:k<(AM [] [] (Av o n).1.l).length:=by rw[<-aF.out]; exact hlt
   have aw:=Aa (cU.out k bb)
   have bc:=Aa (λh=>jX (same:=same) bb h)
   have bK:=Aa (λh h2=>jY (same:=same) bb h h2)
   have ax:=Aa (AV bb)
   have aR:=Aa (jO (Av o n).1.l k bb)
   have bL:Hid (ps[k]=(AM [] [] (Av o n).1.l)[k].1):=by
    have h:ps[k]=((AM [] [] (Av o n).1.l).map (·.1))[k]'(by simpa using bb):=by simp only[<-aO.out]
    unfold Hid
    rw[h,Hc]
   have aG:Hid (∀w',Fr A B ps a1 a2 a3 a4 c1 c2 c3 c4 BA BB g7 fv W0 w'->w'.cell? ⟨g7,k,none⟩=some (fv k)/\PV w' (λb=>b<W0.heap.size) (fv k) ps[k]):=λw' h=>h.pl k hlt
   obtain⟨pa,pc,cz,_,_⟩:=(aG.out _ A1.out.now).2
   have dh:=Aa cz
   clear cz
   obtain⟨x,hx⟩:∃x,x=AJ (C2 o n) (AM [] [] (Av o n).1.l)[k].2:=⟨_,rfl⟩
   obtain⟨d,hd⟩:∃d,d=(AM [] [] (Av o n).1.l)[k]:=⟨_,rfl⟩
   rw[<-hx]at aw
   rw[<-hd]at aw bc bK ax aR bL
   have HX:Hid (AR A.l d.1=some x):=by unfold Hid; rw[bo.out]; exact aw.out.pl
   rw[bL.out]at aG
   have di:Hid (Ab [x]<=2000):=aw.out.size.1
   clear hx hd bL
   go_upto_region 8 with fail
   go_cut [13,14] (λo9 bM wc=>Nv x W0 wr o9 bM wc)
   case first=>
    have BD:Hid (Below wr.heap.size wr wr.drew):=below_drewN (Af _ _) 1
    have A2:Hid (Dr (Fr A B ps a1 a2 a3 a4 c1 c2 c3 c4 BA BB g7 fv W0) wr.drew):=A1.out.later BD.out
    have dm:=HB.out.size
    refine CU (S:=Fr A B ps a1 a2 a3 a4 c1 c2 c3 c4 BA BB g7 fv W0) (by kernel_rfl) A2.out.now (λhHeld=>?_)
    refine tkz 0 ?_
    refine tkz 1 ?_ (hy:=by intro w' hSw;have c0:w'.cell? ⟨BA,0,none⟩=some (.string A.l.name):=hSw.ka.cell 0;have c1:w'.cell? ⟨BA,1,none⟩=some (.slice a1 A.l.args.length c1):=hSw.ka.cell 1;go_simp<;>with_reducible rfl)
    refine tkz 2 ?_
    refine tkz 3 ?_
    refine tkz 4 ?_
    refine tkz 5 ?_ (hy:=by intro w' hSw;have c0:=(aG.out _ hSw).1;go_simp<;>with_reducible rfl)
    generalize wr.drew=wd at *
    refine DV (rs:=[6,10]) (by kernel_rfl) (by simp) ?_
    refine Cb rfl (λK hK=>?_) (Cb rfl (λK hK=>?_) DW)
    ·go_simp
     go_at_call 27
     refine(Jn HX.out _ _ _ (λb=>b<W0.heap.size) ⟨_,_,rfl,A2.out.now.s1⟩ (aG.out _ A2.out.now).2).mono ?_
     rintro e w5 ⟨a9,c9,rfl,aH,af⟩
     have A5:=Aa (A2.out.later af)
     have S9:=Aa aH
     have B5:=Aa (BD.out.trans (af.mono BD.out.size))
     clear aH af
     go_simp
     refine hK.out _ _ (by exact A5.out.now) (λhHeld=>?_)
     clear hK K
     try simp only[Act.put,sq]
     refine tkz 7 ?_
     refine tkz 8 ?_
     refine tkz 9 ?_
     refine rdq 10 rfl λK hK=>?_
     go_simp
     refine hK.out _ _ (by exact(A5.out.alloc _).now) (λhHeld=>?_)
     clear hK K
     try simp only[Act.put,sq]
     refine rdq 11 rfl λK hK=>?_
     go_simp
     refine hK.out _ _ (by exact(A5.out.alloc _).now) (λhHeld=>?_)
     clear hK K
     try simp only[Act.put,sq]
     refine tkz 12 ?_
     refine dnq ?_
     go_wp2_with fail
     go_meet
     exact jU B5.out S9.out
    ·go_simp
     refine hK.out _ _ (by exact(A2.out.alloc _).now) (λhHeld=>?_)
     clear hK K
     try simp only[Act.put,sq]
     have AZ:=Aa (A2.out.alloc (.cells #[.string ⟨#[]⟩,.slice none 0 0] 29))
     have UZ:=Aa (Ac.new wd #[.string ⟨#[]⟩,.slice none 0 0] 29)
     refine rdq 6 rfl λK hK=>?_
     go_simp
     go_at_call 27
     refine(Jn HX.out _ _ _ (λb=>b<W0.heap.size) ⟨_,_,rfl,AZ.out.now.s1⟩ (aG.out _ AZ.out.now).2).mono ?_
     rintro e w5 ⟨a9,c9,rfl,aH,af⟩
     have A5:=Aa (AZ.out.later af)
     have S9:=Aa aH
     have U5:=Aa (UZ.out.below af UZ.out.lt)
     have B5:=Aa (((Af wd.heap.size wd).alloc (Aj _) (.cells #[.string ⟨#[]⟩,.slice none 0 0] 29)).trans (af.mono (by simp)))
     clear aH af
     go_simp
     refine hK.out _ _ (by exact A5.out.now) (λhHeld=>?_)
     clear hK K
     try simp only[Act.put,sq]
     refine tkz 7 ?_
     refine tkz 8 ?_
     refine tkz 9 ?_
     have z0:=U5.out.c0
     have z1:=U5.out.c1
     have zf:=U5.out.frozen
     have zl:wd.heap.size<w5.heap.size:=U5.out.lt
     have UP:=Aa (jV (W0:=W0) (c9:=c9) (by have:=BD.out.size; omega) B5.out U5.out S9.out)
     refine rdq 11 rfl λK hK=>?_
     go_simp
     refine hK.out _ _ (by exact(A2.out.later UP.out.1).now) (λhHeld=>?_)
     clear hK K
     try simp only[Act.put,sq]
     refine tkz 12 ?_
     refine dnq ?_
     go_wp2_with fail
     go_meet
     obtain⟨B9,ah,ai,e1,e2,e3,e4,e5⟩:=UP.out.2
     exact⟨B9,ah,ai,e1,e2,e3,e4,BD.out.trans (e5.mono BD.out.size)⟩
   obtain⟨B9,a9,c9,rfl,rfl,aS,aH,aq⟩:=hcut
   have ak:=Aa (HB.out.trans (aq.mono HB.out.size))
   have aa:=Aa (aP.out.below aq)
   have K9:=Aa aS
   have S9:=Aa aH
   have A9:Hid (Dr (Fr A B ps a1 a2 a3 a4 c1 c2 c3 c4 BA BB g7 fv W0) wc):=A1.out.later aq
   have z0:=aS.c0
   have z1:=aS.c1
   clear aS aH aq aP A1
   have next:Hid (CS AC (Av o n) same d=true->Nx o n same W0 (.slice va cs.length vc) (.int .i64 ((k:Int)+1)) wc):=λh=>
    ⟨k+1,cs,by rw[<-aF.out]; omega,by go_num,aa.out,by rw[(bc.out h).1]; exact aQ.out,(bc.out h).2 ba.out,ak.out⟩
   go_upto_region 9 with fail
   obtain⟨gb,hgb⟩:∃gb,gb=(Ak x.name||(same&&decide (k=0))):=⟨_,rfl⟩
   have aT:=Aa hgb
   clear hgb
   go_cut [54] (λg wd=>g=.bool gb/\wd=wc)
   case first=>
    cases hv:Ak x.name with
    |true=>
     have HV:=Aa hv
     have HG:Hid (gb=true):=by unfold Hid; rw[aT.out,hv]; rfl
     clear hv
     go_wp2_with (go_at_call 14; refine(Du _ _).mono ?_; rintro e w' ⟨rfl,rfl⟩; rw[HV.out])
     go_meet
     exact⟨by rw[HG.out],rfl⟩
    |false=>
     have HV:=Aa hv
     cases same with
     |false=>
      have HG:Hid (gb=false):=by unfold Hid; rw[aT.out,hv]; rfl
      clear hv
      go_wp2_with (go_at_call 14; refine(Du _ _).mono ?_; rintro e w' ⟨rfl,rfl⟩; rw[HV.out])
      go_meet
      exact⟨by rw[HG.out],rfl⟩
     |true=>
      by_cases h0:k=0
      ·have HG:Hid (gb=true):=by unfold Hid; rw[aT.out,hv,h0]; rfl
       have hik:((k:Int)==0)=true:=by simp[h0]
       clear hv h0
       go_wp2_with (go_at_call 14; refine(Du _ _).mono ?_; rintro e w' ⟨rfl,rfl⟩; rw[HV.out])
       go_meet
       exact⟨by rw[HG.out],rfl⟩
      ·have HG:Hid (gb=false):=by unfold Hid; rw[aT.out,hv]; simp[h0]
       have hik:((k:Int)==0)=false:=by rw[DL]; omega
       clear hv h0
       go_wp2_with (go_at_call 14; refine(Du _ _).mono ?_; rintro e w' ⟨rfl,rfl⟩; rw[HV.out])
       go_meet
       exact⟨by rw[HG.out],rfl⟩
   obtain⟨rfl,hwd⟩:=hcut
   subst hwd
   have bN:Hid (gb=true->CS AC (Av o n) same d=true):=λh=>by
    rw[aT.out]at h
    cases hv:Ak x.name with
    |true=>exact aw.out.vr hv same
    |false=>
     rw[hv]at h
     simp at h
     cases hq:CS AC (Av o n) same d with
     |true=>rfl
     |false=>exact absurd ⟨aR.out.2 h.2,h.1⟩ ((aw.out.sv hv same).1 hq).1
   have bA:Hid (gb=false->Ak x.name=false/\¬(d.1=[]/\same=true)):=λh=>by
    rw[aT.out]at h
    simp at h
    exact⟨h.1,λhh=>h.2 hh.2 (aR.out.1 hh.1)⟩
   clear aT
   cases gb with
   |true=>
    have aU:Hid (CS AC (Av o n) same d=true):=bN.out rfl
    clear bN bA
    go_wp2_with fail
    go_roundw
    case rel=>exact next.out aU.out
    case measure=>simp[intOf]; omega
   |false=>
    have HV:=Aa (bA.out rfl).1
    have c7:=Aa (bA.out rfl).2
    have bO:=Aa (aw.out.sv HV.out same)
    clear bN bA
    obtain⟨gq,R,hR,c8,cA⟩:=aw.out.un
    have HR:=Aa hR
    have aV:=Aa c8
    have br:=Aa cA
    have HST:=Aa (HH aw.out.pe)
    rw[<-cp.out]at HR br HST
    rw[<-bo.out]at br
    clear hR c8 cA
    have b0:=A9.out.now.kb.c0
    have b1:=A9.out.now.kb.c1
    have cB:Hid (QV (wc.alloc (.cells #[.string x.name,.slice a9 x.args.length c9,.string B.l.name,.slice a3 B.l.args.length c3] 31)) (λ_=>True) (.slice (some ⟨wc.heap.size,0,none⟩) 1 1) [⟨x,B.l⟩]):=jZ (Ac.new _ _ _) ((S9.out.mono λ_ _ _=>trivial).later ((Af _ _).alloc (Aj _) _)) ((A9.out.now.s3.mono λ_ _ _=>trivial).later ((Af _ _).alloc (Aj _) _))
    have aI:Hid (Below wc.heap.size wc (wc.alloc (.cells #[.string x.name,.slice a9 x.args.length c9,.string B.l.name,.slice a3 B.l.args.length c3] 31))):=(Af _ _).alloc (Aj _) _
    go_wp2_with fail
    generalize wc.alloc (.cells #[.string x.name,.slice a9 x.args.length c9,.string B.l.name,.slice a3 B.l.args.length c3] 31)=wq at *
    refine(ZC _ HST.out.2.2.2 R gq _ _ wq (λ_=>True) cB.out HST.out.2.2.1 HR.out).mono ?_
    rintro e w5 ⟨af,bs⟩
    have ay:=aI.out.trans (af.mono aI.out.size)
    have bt:=Aa (ak.out.trans (ay.mono ak.out.size))
    have ao:=Aa (aa.out.below ay)
    have A5:Hid (Dr (Fr A B ps a1 a2 a3 a4 c1 c2 c3 c4 BA BB g7 fv W0) w5):=A9.out.later ay
    clear z0 z1 b0 b1 af ay cB aI K9 S9 next aa ak A9 HR HST
    have cC:Hid (CS AC (Av o n) same d=true->Nx o n same W0 (.slice va cs.length vc) (.int .i64 ((k:Int)+1)) w5):=λh=>
     ⟨k+1,cs,by rw[<-aF.out]; omega,by go_num,ao.out,by rw[(bc.out h).1]; exact aQ.out,(bc.out h).2 ba.out,bt.out⟩
    rcases bs with ⟨az,sv,rfl,bP⟩|⟨az,rfl⟩
    case inr=>
     obtain⟨er,cD⟩:∃er,er=R.1:=⟨_,rfl⟩
     rw[<-cD]at az aV ⊢
     clear cD br
     by_cases h8:er=8
     ·subst h8
      have HF:Hid (Dk AC (Av o n) same d):=⟨bO.out.2 ⟨c7.out,Ae aV.out.symm⟩,Ad aV.out.symm⟩
      clear az
      go_wp2_with fail
      refine Ap (v:=.tuple #[.slice none 0 0,.int .i64 8]) (by simp[results,Tryz.results17,go_sem]) rfl ?_
      exact⟨au.out.trans (bt.out.mono au.out.size),Ae ⟨⟨d,ax.out,HF.out⟩,rfl⟩⟩
     ·have aU:Hid (CS AC (Av o n) same d=true):=by
       unfold Hid
       cases hq:CS AC (Av o n) same d with
       |true=>rfl
       |false=>
        have h:=((bO.out.1 hq).2)
        rw[<-aV.out]at h
        exact absurd h (by omega)
      have e8:(er==8)=false:=by rw[DL]; exact h8
      have e0:(er !=0)=true:=by simp[az]
      clear az h8
      go_wp2_with fail
      go_roundw
      case rel=>exact cC.out aU.out
      case measure=>simp[intOf]; omega
    case inl=>
     have HS:Hid (CS AC (Av o n) same d=false):=bO.out.2 ⟨c7.out,Ad (by rw[<-aV.out]; exact az)⟩
     obtain⟨⟨cE,cF⟩,⟨hz1,hz2⟩,bu⟩:=br.out az
     have bw:Hid ((2000<Ab [Ag R.2 A.r]∨2000<Ab [Ag R.2 (AL B.r d.1 A.l)])->Dk AC (Av o n) same d):=λh=>⟨HS.out,Ae (by rw[hz1,hz2] at h; exact h)⟩
     have bB:Hid (Ab [Ag R.2 A.r]<=2000->Ab [Ag R.2 (AL B.r d.1 A.l)]<=2000->¬Dk AC (Av o n) same d):=λh1 h2 hf=>by
      rcases hf.2 with h|h|h
      ·rw[<-aV.out,az]at h; cases h
      ·rw[<-hz1]at h; omega
      ·rw[<-hz2]at h; omega
     obtain⟨av,cv,rfl,_⟩:=id bP
     have bQ:=Aa bP
     have HE:=Aa (And.intro cE cF)
     have a7:=Aa bu
     clear az bP cE cF hz1 hz2 bu br aV cC bc
     have q2:=A5.out.now.ka.c2
     have q3:=A5.out.now.ka.c3
     generalize R.2=ls at *
     go_wp2_with fail
     refine(G2 (λ_=>True) ls A.r _ a2 c2 w5 bQ.out (A5.out.now.s2.mono λ_ _ _=>trivial) (by have:=ar.out; omega)).mono ?_
     rintro e w6 ⟨s6,a6,n6,c6,cV,rfl,bR,bx⟩
     have bz:Below w5.heap.size w5 (w6.alloc (.cells #[.string s6,.slice a6 n6 c6] 29)):=bR.alloc bR.size _
     have bS:Hid (FK (λ_=>True) (Ag ls A.r) s6 a6 n6 c6 cV (w6.alloc (.cells #[.string s6,.slice a6 n6 c6] 29))):=(Lr (Y:=λ_=>True) bx λ_ _=>trivial).imp λh=>h.later ((Af _ _).alloc (Aj _) _)
     have K6:=Aa (Ac.new w6 #[.string s6,.slice a6 n6 c6] 29)
     have A6:Hid (Dr (Fr A B ps a1 a2 a3 a4 c1 c2 c3 c4 BA BB g7 fv W0) (w6.alloc (.cells #[.string s6,.slice a6 n6 c6] 29))):=A5.out.later bz
     have bT:=Aa (bt.out.trans (bz.mono bt.out.size))
     have aJ:=Aa (ao.out.below bz)
     have b3:=Aa (bQ.out.later bz)
     clear q2 q3 bR bx bz A5 bt ao bQ
     go_upto_region 15 with fail
     generalize w6.alloc (.cells #[.string s6,.slice a6 n6 c6] 29)=w7 at *
     obtain⟨By,cG⟩:∃By,By=w6.heap.size:=⟨_,rfl⟩
     rw[<-cG]at K6 ⊢
     clear cG
     obtain⟨tA,cH⟩:∃tA,tA=Ag ls A.r:=⟨_,rfl⟩
     obtain⟨tZ,bU⟩:∃tZ,tZ=Ag ls (AL B.r d.1 A.l):=⟨_,rfl⟩
     rw[<-cH]at bS bw bB HE a7
     rw[<-bU]at bw bB HE a7
     have bV:=Aa bU
     clear cH bU
     go_cut [19,20] (λo9 bM wc=>Nw tZ w7 o9 bM wc)
     case first=>
      have BD:Hid (Below w7.heap.size w7 w7.drew):=below_drewN (Af _ _) 1
      have A2:Hid (Dr (Fr A B ps a1 a2 a3 a4 c1 c2 c3 c4 BA BB g7 fv W0) w7.drew):=A6.out.later BD.out
      have cI:=Aa (b3.out.later BD.out)
      refine CU (S:=Fr A B ps a1 a2 a3 a4 c1 c2 c3 c4 BA BB g7 fv W0) (by kernel_rfl) A2.out.now (λhHeld=>?_)
      refine tkz 0 ?_
      refine tkz 1 ?_
      refine tkz 2 ?_ (hy:=by intro w' hSw;have c0:w'.cell? ⟨BA,0,none⟩=some (.string A.l.name):=hSw.ka.cell 0;have c1:w'.cell? ⟨BA,1,none⟩=some (.slice a1 A.l.args.length c1):=hSw.ka.cell 1;go_simp<;>with_reducible rfl)
      refine tkz 3 ?_
      refine tkz 4 ?_
      refine tkz 5 ?_
      refine tkz 6 ?_ (hy:=by intro w' hSw;have c0:=(aG.out _ hSw).1;go_simp<;>with_reducible rfl)
      refine tkz 7 ?_
      refine tkz 8 ?_ (hy:=by intro w' hSw;have c0:w'.cell? ⟨BB,2,none⟩=some (.string B.r.name):=hSw.kb.cell 2;have c1:w'.cell? ⟨BB,3,none⟩=some (.slice a4 B.r.args.length c4):=hSw.kb.cell 3;go_simp<;>with_reducible rfl)
      generalize w7.drew=wd at *
      refine DV (rs:=[9,14]) (by kernel_rfl) (by simp) ?_
      refine Cb rfl (λK hK=>?_) (Cb rfl (λK hK=>?_) DW)
      ·go_simp
       go_at_call 30
       refine(Mp B.r d.1 A.l _ _ _ wd (λb=>b<W0.heap.size) ⟨_,_,rfl,A2.out.now.s1⟩ (aG.out _ A2.out.now).2 ⟨_,_,rfl,A2.out.now.s4⟩ (by have:=aZ.out; omega)).mono ?_
       rintro e w5 ⟨v',rfl,⟨a5,c5,rfl,hs5⟩,af⟩
       have A5:=Aa (A2.out.later af)
       have S5:=Aa hs5
       have B5:=Aa (BD.out.trans (af.mono BD.out.size))
       have bC:=Aa (cI.out.later af)
       clear hs5 af
       go_simp
       refine hK.out _ _ (by exact A5.out.now) (λhHeld=>?_)
       clear hK K
       try simp only[Act.put,sq]
       refine DV (rs:=[10,14]) (by kernel_rfl) (by simp) ?_
       refine Cb rfl (λK hK=>?_) (Cb rfl (λK hK=>?_) DW)
       ·go_simp
        go_at_call 29
        refine(G2 (λ_=>True) ls (AL B.r d.1 A.l) _ a5 c5 w5 bC.out (S5.out.mono λ_ _ _=>trivial) (by have h1:=Ke B.r d.1 A.l; have:=aZ.out; have:=ar.out; omega)).mono ?_
        rintro e w8 ⟨s9,ah,n9,ai,bf,rfl,ag,ae⟩
        rw[<-bV.out]at ae
        have A8:=Aa (A5.out.later ag)
        have B8:=Aa (B5.out.trans (ag.mono B5.out.size))
        have b4:Hid (FK (λ_=>True) tZ s9 ah n9 ai bf w8):=Lr ae λ_ _=>trivial
        clear ae ag
        go_simp
        refine hK.out _ _ (by exact A8.out.now) (λhHeld=>?_)
        clear hK K
        try simp only[Act.put,sq]
        refine tkz 11 ?_
        refine tkz 12 ?_
        refine tkz 13 ?_
        refine rdq 14 rfl λK hK=>?_
        go_simp
        refine hK.out _ _ (by exact(A8.out.alloc _).now) (λhHeld=>?_)
        clear hK K
        try simp only[Act.put,sq]
        refine rdq 15 rfl λK hK=>?_
        go_simp
        refine hK.out _ _ (by exact(A8.out.alloc _).now) (λhHeld=>?_)
        clear hK K
        try simp only[Act.put,sq]
        refine tkz 16 ?_
        refine dnq ?_
        go_wp2_with fail
        go_meet
        exact jW B8.out b4.out
       ·go_simp
        refine hK.out _ _ (by exact(A5.out.alloc _).now) (λhHeld=>?_)
        clear hK K
        try simp only[Act.put,sq]
        have AZ:=Aa (A5.out.alloc (.cells #[.string ⟨#[]⟩,.slice none 0 0] 29))
        have UZ:=Aa (Ac.new w5 #[.string ⟨#[]⟩,.slice none 0 0] 29)
        have aK:Below w5.heap.size w5 (w5.alloc (.cells #[.string ⟨#[]⟩,.slice none 0 0] 29)):=(Af _ _).alloc (Aj _) _
        have bW:Hid (BV (w5.alloc (.cells #[.string ⟨#[]⟩,.slice none 0 0] 29)) (λb=>b<w5.heap.size) (.slice av ls.length cv) ls):=(bC.out.mono λ_ _ h=>h).later aK
        have SZ:Hid (Sl (w5.alloc (.cells #[.string ⟨#[]⟩,.slice none 0 0] 29)) (λb=>b<w5.heap.size) a5 (AL B.r d.1 A.l).args):=(S5.out.mono λ_ _ h=>h).later aK
        have bX:Hid (w7.heap.size<=w5.heap.size):=B5.out.size
        have BZ:=Aa (B5.out.trans (aK.mono B5.out.size))
        clear aK
        refine rdq 10 rfl λK hK=>?_
        go_simp
        go_at_call 29
        refine(G2 (λb=>b<w5.heap.size) ls (AL B.r d.1 A.l) _ a5 c5 _ bW.out SZ.out (by have h1:=Ke B.r d.1 A.l; have:=aZ.out; have:=ar.out; omega)).mono ?_
        rintro e w8 ⟨s9,ah,n9,ai,bf,rfl,ag,ae⟩
        rw[<-bV.out]at ae
        have A8:=Aa (AZ.out.later ag)
        have B8:=Aa (BZ.out.trans (ag.mono BZ.out.size))
        have b4:Hid (FK (λb=>b≠w5.heap.size) tZ s9 ah n9 ai bf w8):=Lr ae λb h=>by rcases h with h|h; omega; simp at h; omega
        have U8:=Aa (UZ.out.below ag UZ.out.lt)
        clear ae ag
        go_simp
        refine hK.out _ _ (by exact A8.out.now) (λhHeld=>?_)
        clear hK K
        try simp only[Act.put,sq]
        refine tkz 11 ?_
        refine tkz 12 ?_
        refine tkz 13 ?_
        have z0:=U8.out.c0
        have z1:=U8.out.c1
        have zf:=U8.out.frozen
        have zl:w5.heap.size<w8.heap.size:=U8.out.lt
        have UP:=Aa (TX bX.out B8.out U8.out b4.out)
        refine rdq 15 rfl λK hK=>?_
        go_simp
        refine hK.out _ _ (by exact(A6.out.later UP.out.1).now) (λhHeld=>?_)
        clear hK K
        try simp only[Act.put,sq]
        refine tkz 16 ?_
        refine dnq ?_
        go_wp2_with fail
        go_meet
        exact UP.out.2
      ·go_simp
       refine hK.out _ _ (by exact(A2.out.alloc _).now) (λhHeld=>?_)
       clear hK K
       try simp only[Act.put,sq]
       have AZ:=Aa (A2.out.alloc (.cells #[.string ⟨#[]⟩,.slice none 0 0] 29))
       have UZ:=Aa (Ac.new wd #[.string ⟨#[]⟩,.slice none 0 0] 29)
       have aK:Below wd.heap.size wd (wd.alloc (.cells #[.string ⟨#[]⟩,.slice none 0 0] 29)):=(Af _ _).alloc (Aj _) _
       have bW:Hid (BV (wd.alloc (.cells #[.string ⟨#[]⟩,.slice none 0 0] 29)) (λb=>b<wd.heap.size) (.slice av ls.length cv) ls):=(cI.out.mono λ_ _ h=>h).later aK
       have bX:Hid (w7.heap.size<=wd.heap.size):=BD.out.size
       have BZ:=Aa (BD.out.trans (aK.mono BD.out.size))
       have bY:Hid (W0.heap.size<=wd.heap.size):=A2.out.now.bl.size
       clear aK
       refine rdq 9 rfl λK hK=>?_
       go_simp
       go_at_call 30
       refine(Mp B.r d.1 A.l _ _ _ _ (λb=>b<W0.heap.size) ⟨_,_,rfl,AZ.out.now.s1⟩ (aG.out _ AZ.out.now).2 ⟨_,_,rfl,AZ.out.now.s4⟩ (by have:=aZ.out; omega)).mono ?_
       rintro e w5 ⟨v',rfl,⟨a5,c5,rfl,hs5⟩,af⟩
       have A5:=Aa (AZ.out.later af)
       have S5:Hid (Sl w5 (λb=>b≠wd.heap.size) a5 (AL B.r d.1 A.l).args):=hs5.mono λb h _=>by have:=bY.out; rcases h with h|h; omega; simp at h; omega
       have B5:=Aa (BZ.out.trans (af.mono BZ.out.size))
       have bC:=Aa ((bW.out.later af).mono (Y:=λb=>b≠wd.heap.size) λb h _=>by omega)
       have U5:=Aa (UZ.out.below af UZ.out.lt)
       clear hs5 af
       go_simp
       refine hK.out _ _ (by exact A5.out.now) (λhHeld=>?_)
       clear hK K
       try simp only[Act.put,sq]
       refine rdq 10 rfl λK hK=>?_
       go_simp
       go_at_call 29
       refine(G2 (λb=>b≠wd.heap.size) ls (AL B.r d.1 A.l) _ a5 c5 w5 bC.out S5.out (by have h1:=Ke B.r d.1 A.l; have:=aZ.out; have:=ar.out; omega)).mono ?_
       rintro e w8 ⟨s9,ah,n9,ai,bf,rfl,ag,ae⟩
       rw[<-bV.out]at ae
       have A8:=Aa (A5.out.later ag)
       have B8:=Aa (B5.out.trans (ag.mono B5.out.size))
       have b4:Hid (FK (λb=>b≠wd.heap.size) tZ s9 ah n9 ai bf w8):=Lr ae λb h=>by have:=U5.out.lt; rcases h with h|h; exact h.1; omega
       have U8:=Aa (U5.out.below ag U5.out.lt)
       clear ae ag
       go_simp
       refine hK.out _ _ (by exact A8.out.now) (λhHeld=>?_)
       clear hK K
       try simp only[Act.put,sq]
       refine tkz 11 ?_
       refine tkz 12 ?_
       refine tkz 13 ?_
       have z0:=U8.out.c0
       have z1:=U8.out.c1
       have zf:=U8.out.frozen
       have zl:wd.heap.size<w8.heap.size:=U8.out.lt
       have UP:=Aa (TX bX.out B8.out U8.out b4.out)
       refine rdq 15 rfl λK hK=>?_
       go_simp
       refine hK.out _ _ (by exact(A6.out.later UP.out.1).now) (λhHeld=>?_)
       clear hK K
       try simp only[Act.put,sq]
       refine tkz 16 ?_
       refine dnq ?_
       go_wp2_with fail
       go_meet
       exact UP.out.2
     obtain⟨Bz,s9,ah,n9,ai,bf,rfl,rfl,aS,b5,aq⟩:=hcut
     have ak:=Aa (bT.out.trans (aq.mono bT.out.size))
     have K9:=Aa aS
     have cJ:=Aa b5
     have KY:=Aa (K6.out.below aq K6.out.lt)
     have cK:=Aa (bS.out.imp λh=>h.later aq)
     have aa:=Aa (aJ.out.below aq)
     clear aS b5 aq K6 bS bT aJ A6 b3
     rcases cK.out with ⟨h1,h2⟩|⟨h1,a8,e1,e2,bZ⟩
     ·have HF:Hid (Dk AC (Av o n) same d):=bw.out (Ad h2)
      clear h2
      subst h1
      go_wp2_with fail
      refine Ap (v:=.tuple #[.slice none 0 0,.int .i64 8]) (by simp[results,Tryz.results17,go_sem]) rfl ?_
      exact⟨au.out.trans (ak.out.mono au.out.size),Ae ⟨⟨d,ax.out,HF.out⟩,rfl⟩⟩
     ·subst h1
      subst e1
      subst e2
      rcases cJ.out with ⟨h1,h2⟩|⟨h1,aW,e1,e2,hsz⟩
      ·have HF:Hid (Dk AC (Av o n) same d):=bw.out (Ae h2)
       clear h2 a8 bZ
       subst h1
       go_wp2_with fail
       refine Ap (v:=.tuple #[.slice none 0 0,.int .i64 8]) (by simp[results,Tryz.results17,go_sem]) rfl ?_
       exact⟨au.out.trans (ak.out.mono au.out.size),Ae ⟨⟨d,ax.out,HF.out⟩,rfl⟩⟩
      ·subst h1
       subst e1
       subst e2
       have cL:=Aa bZ
       have cM:=Aa hsz
       have cW:=Aa (bB.out a8 aW)
       have cX:=Aa (And.intro a8 aW)
       clear a8 aW bZ hsz cK cJ bw bB
       have y0:=KY.out.c0
       have y1:=KY.out.c1
       have z0:wc.cell? ⟨Bz,0,none⟩=some (.string tZ.name):=K9.out.cell 0
       have z1:wc.cell? ⟨Bz,1,none⟩=some (.slice ah tZ.args.length ai):=K9.out.cell 1
       have cN:Hid (Sl (wc.alloc (.cells #[.string tA.name,.slice a6 tA.args.length c6,.string tZ.name,.slice ah tZ.args.length ai] 29)) (λ_=>True) (some ⟨wc.heap.size,0,none⟩) [tA,tZ]):=Tr (Ac.new _ _ _) (cL.out.later ((Af _ _).alloc (Aj _) _)) (cM.out.later ((Af _ _).alloc (Aj _) _))
       have aI:Hid (Below wc.heap.size wc (wc.alloc (.cells #[.string tA.name,.slice a6 tA.args.length c6,.string tZ.name,.slice ah tZ.args.length ai] 29))):=(Af _ _).alloc (Aj _) _
       go_wp2_with fail
       generalize wc.alloc (.cells #[.string tA.name,.slice a6 tA.args.length c6,.string tZ.name,.slice ah tZ.args.length ai] 29)=wq at *
       refine(fS [tA,tZ] _ 2 wq (λ_=>True) cN.out (Cp.2 HE.out) (by have:=cX.out; have e:Ab [tA,tZ]=Ab [tA]+Ab [tZ]:=EG tA [tZ]; omega)).mono ?_
       rintro e w8 ⟨an,cn,rfl,bD,ag⟩
       have aA:=aI.out.trans (ag.mono aI.out.size)
       have b6:=Aa (ak.out.trans (aA.mono ak.out.size))
       have aL:=Aa (aa.out.below aA)
       have aX:=Aa aA
       have cc:Hid (wc.heap.size<=wq.heap.size):=aI.out.size
       rw[a7.out]at bD
       clear y0 y1 z0 z1 ag aA cN aI cL cM KY K9
       obtain⟨q,hq⟩:∃q,q=Dz (DT AC (Av o n) d):=⟨_,rfl⟩
       rw[<-hq]at bD
       have HQ:=Aa hq
       clear hq a7
       obtain⟨bn,on,bg,bh,bj,bk,rfl,dn,d0,d1,d2,d3,t1,t2⟩:=kA bD
       have D:=Aa (And.intro d0 (And.intro d1 (And.intro d2 d3)))
       have T1:=Aa t1
       have T2:=Aa t2
       clear bD d0 d1 d2 d3 t1 t2
       have bd:Below w8.heap.size w8 w8.drew:=(Af _ _).drew
       have cY:cs.length<=1000000:=by
        have h1:=Bu List.length aQ.out
        have h2:=List.length_filterMap_le (Eg AC (Av o n) same) ((AM [] [] (Av o n).1.l).take k)
        rw[DZ]at h1
        rw[Hh]at h2
        omega
       obtain⟨v2,w9,hrun,cO,cd,cf⟩:=MQ aa.out ak.out.size (λ_ h=>h.elim) (aX.out.trans (bd.mono aX.out.size)) (q,(bg,bh),(bj,bk)) ⟨(T1.out.later bd).mono λb h _=>Ae (AX cc.out h),(T2.out.later bd).mono λb h _=>Ae (AX cc.out h)⟩ cY _ rfl
       have b7:=Aa hrun
       have cP:=Aa cO
       have cQ:Hid (Below W0.heap.size W0 w9):=by
        have cg:=aL.out.own.lt
        have hb1:Below W0.heap.size W0 (w8.drew.alloc (.cells #[.string q.l.name,.slice bg q.l.args.length bh,.string q.r.name,.slice bj q.r.args.length bk] 31)):=(b6.out.trans (bd.mono b6.out.size)).alloc (b6.out.trans (bd.mono b6.out.size)).size _
        exact hb1.grown cd hb1.size (λj hj=>(cg j hj).1)
       have b8:Hid (w8.heap.size<=w9.heap.size):=by have:=cd.size; have h2:=bd.size; simp at this; unfold Hid; omega
       have E0:Hid (w8.drew.cell? ⟨bn,on,none⟩=some (.string q.l.name)):=cell_later bd D.out.1
       have E1:Hid (w8.drew.cell? ⟨bn,on+1,none⟩=some (.slice bg q.l.args.length bh)):=cell_later bd D.out.2.1
       have E2:Hid (w8.drew.cell? ⟨bn,on+2,none⟩=some (.string q.r.name)):=cell_later bd D.out.2.2.1
       have E3:Hid (w8.drew.cell? ⟨bn,on+2+1,none⟩=some (.slice bj q.r.args.length bk)):=cell_later bd D.out.2.2.2
       have bE:=Aa (bK.out HS.out cW.out)
       have aY:Hid (w8.heap.size<=w8.drew.heap.size):=bd.size
       have dp:Hid ((cs++[(q,(bg,bh),(bj,bk))]).length=cs.length+1):=by unfold Hid; simp
       clear hrun cO cd cf bd D T1 T2 aL b6 bK aa ak aX cc
       go_upto_region 19 with fail
       refine CU (S:=λw'=>w8.heap.size<=w'.heap.size) (by kernel_rfl) aY.out (λhHeld=>?_)
       refine tkz 0 ?_
       refine tkz 1 ?_
       refine tkz 2 ?_
       refine tkz 4 ?_
       refine tkz 5 ?_
       have e0:=E0.out
       have e1:=E1.out
       have e2:=E2.out
       have e3:=E3.out
       generalize w8.drew=wd at *
       refine DV (rs:=[3,6]) (by kernel_rfl) (by simp) ?_
       refine Cb rfl (λK hK=>?_) (Cb rfl (λK hK=>?_) DW)
       ·go_simp
        refine hK.out _ _ (by exact aY.out) (λhHeld=>?_)
        clear hK K
        try simp only[Act.put,sq]
        refine rdq 6 rfl λK hK=>?_
        go_simp
        refine hK.out _ _ (by exact aY.out) (λhHeld=>?_)
        clear hK K
        try simp only[Act.put,sq]
        refine tkz 7 ?_
        refine rdq 8 rfl λK hK=>?_
        go_simp
        refine hK.out _ _ (by exact by have:=aY.out; simp; omega) (λhHeld=>?_)
        clear hK K
        try simp only[Act.put,sq]
        refine rdq 9 rfl λK hK=>?_
        refine FV rfl _ _ _ _ rfl rfl rfl b7.out ?_
        refine hK.out _ _ (by exact b8.out) (λhHeld=>?_)
        clear hK K
        try simp only[Act.put,sq]
        refine tkz 10 ?_
        refine dnq ?_
        go_wp2_with fail
        go_roundw
        case rel=>exact⟨k+1,cs++[(q,(bg,bh),(bj,bk))],by rw[<-aF.out]; omega,by go_num,cP.out,by rw[bE.out.1,Cr,aQ.out,<-HQ.out]; rfl,bE.out.2 ba.out,cQ.out⟩
        case measure=>simp[intOf]; omega
       ·go_simp
        refine hK.out _ _ (by exact aY.out) (λhHeld=>?_)
        clear hK K
        try simp only[Act.put,sq]
        refine rdq 3 rfl λK hK=>?_
        go_simp
        refine hK.out _ _ (by exact aY.out) (λhHeld=>?_)
        clear hK K
        try simp only[Act.put,sq]
        refine tkz 7 ?_
        refine rdq 8 rfl λK hK=>?_
        go_simp
        refine hK.out _ _ (by exact by have:=aY.out; simp; omega) (λhHeld=>?_)
        clear hK K
        try simp only[Act.put,sq]
        refine rdq 9 rfl λK hK=>?_
        refine FV rfl _ _ _ _ rfl rfl rfl b7.out ?_
        refine hK.out _ _ (by exact b8.out) (λhHeld=>?_)
        clear hK K
        try simp only[Act.put,sq]
        refine tkz 10 ?_
        refine dnq ?_
        go_wp2_with fail
        go_roundw
        case rel=>exact⟨k+1,cs++[(q,(bg,bh),(bj,bk))],by rw[<-aF.out]; omega,by go_num,cP.out,by rw[bE.out.1,Cr,aQ.out,<-HQ.out]; rfl,bE.out.2 ba.out,cQ.out⟩
        case measure=>simp[intOf]; omega
  ·have bJ:¬(k:Int)<(ps.length:Int):=by omega
   have cZ:Hid ((AM [] [] (Av o n).1.l).take k=AM [] [] (Av o n).1.l):=AW (by rw[<-aF.out]; omega)
   rw[cZ.out]at aQ ba
   go_wp2_with fail
   refine Ap (v:=.tuple #[.slice va cs.length vc,.int .i64 0]) (by simp[results,Tryz.results17,go_sem]) rfl ?_
   exact⟨au.out.trans (HB.out.mono au.out.size),Ad ⟨ba.out,_,cs,rfl,TY aP.out au.out.size,aQ.out⟩⟩
end Go.Proofs.YtlkeafenklamjaaGreatDoor
