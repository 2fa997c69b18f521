import Derived.Test.YtacmmcnnhfmepaaGreatDoorLg12
namespace Go.Proofs.YtacmmcnnhfmepaaGreatDoor
set_option linter.all false
set_option maxRecDepth 20000
set_option maxHeartbeats 8000000
open Go.RowKit Go.Proofs.Tryz
theorem UX (b d:Int) (a:Option Addr) (n c:Nat) (w:World):
  Calls prog 61 #[.agg #[zA b,zA d,.slice a n c]] w λe w'=>e=.returned (.slice a n c)/\Below w.heap.size w w':=by
 go_enter func61,ntmps61;go_wp2_with fail;go_ret;exact⟨rfl,(Ac _ _).alloc (Ag _) _⟩
theorem lX (k x:Int) (a b:Option Addr) (n c m d:Nat) (w:World):
  Calls prog 62 #[.agg #[zA k,zA x,.slice a n c],.agg #[zA k,zA x,.slice b m d]] w λe w'=>e=.returned (.bool true)/\Below w.heap.size w w':=by
 have h1:(k==k)=true:=by simp
 have h2:(x==x)=true:=by simp
 go_enter func62,ntmps62;go_wp2_with fail;go_ret;exact⟨rfl,EC _ _⟩
theorem lZ (t:Lm):∀(v u:Value) (w:World) (X Y:Nat->Prop),MV w X v t->MV w Y u t->
  Calls prog 60 #[v,u,.func (.func 61) #[] #[],.func (.func 62) #[] #[]] w λe w'=>e=.returned (.bool true)/\Below w.heap.size w w':=by
 induction t using Lm.ind with
 |h s q l I=>
  intro v u w X Y hv hu;have IH:=Aa I;clear I;obtain⟨a,c,rfl,J⟩:=hv;obtain⟨a2,c2,rfl,al⟩:=hu;have hl:=J.1;(try dsimp only[zG]);(try dsimp only[zH]);(try dsimp only[zE]);(try dsimp only);obtain⟨L,M,N⟩:=Ii w #[zA s,zA q,.slice a l.length c] #[zA s,zA q,.slice a2 l.length c2] 24 24;have r:=Aa L;have x:=Aa M;have z:=Aa N;clear L M N;go_enter func60,ntmps60;go_upto_region 1 with fail;generalize ((w.alloc _).alloc _)=f at *;have j:Hid (∀w',Below f.heap.size f w'->(w'.cell? (zD w.heap.size 0)=some (zA s)/\w'.cell? (zD w.heap.size 1)=some (zA q)/\w'.cell? (zD w.heap.size 2)=some (.slice a l.length c))/\w'.cell? (zD (w.heap.size+1) 0)=some (zA s)/\w'.cell? (zD (w.heap.size+1) 1)=some (zA q)/\w'.cell? (zD (w.heap.size+1) 2)=some (.slice a2 l.length c2)):=λw' hb=>by
   have h1:=x.o.below hb x.o.lt;have h2:=z.o.below hb z.o.lt;exact⟨⟨h1.cell 0,h1.cell 1,h1.cell 2⟩,h2.cell 0,h2.cell 1,h2.cell 2⟩
  go_cut [9,10] (λV9 an w'=>V9=.slice a l.length c/\an=.slice a2 l.length c2/\Below f.heap.size f w');case first=>
   have g:Below f.heap.size f f.drew:=(Ac _ _).drew;refine CC (S:=λw'=>Below f.heap.size f w') (by kernel_rfl) g λhH=>?_;generalize f.drew=wd at *;refine tkz 0 ?_;refine tkz 1 ?_ (hy:=by intro w' d; have A:=(j.o w' d).1.1; have B:=(j.o w' d).1.2.1; have C:=(j.o w' d).1.2.2; go_simp<;>with_reducible rfl);refine tkz 3 ?_;refine tkz 4 ?_ (hy:=by intro w' d; have A:=(j.o w' d).2.1; have B:=(j.o w' d).2.2.1; have C:=(j.o w' d).2.2.2; go_simp<;>with_reducible rfl);refine rdq 2 rfl λK m=>?_;go_simp;go_at_call 61;refine(UX _ _ _ _ _ _).mono ?_;rintro e w4 ⟨rfl,O⟩;have D:=g.trans (O.mono g.size);refine m.o _ _ (by exact D) λhH=>?_;clear m K O;(try simp only[Act.put,sq]);refine rdq 5 rfl λK m=>?_;go_simp;go_at_call 61;refine(UX _ _ _ _ _ _).mono ?_;rintro e P ⟨rfl,n⟩;have R:=D.trans (n.mono D.size);refine m.o _ _ (by exact R) λhH=>?_;clear m K n;(try simp only[Act.put,sq]);refine tkz 6 ?_;refine tkz 7 ?_;refine dnq ?_;go_wp2_with fail;go_meet;exact⟨rfl,rfl,R⟩
  case rest=>
  rename World=>P;obtain⟨rfl,rfl,n⟩:=hcut;have E:=Aa (r.o.trans (n.mono r.o.size));obtain⟨⟨z0,z1,z2⟩,z3,z4,z5⟩:=j.o P n;clear n j x z r;go_wp2_with fail;refine(lX s q _ _ _ _ _ _ _).mono ?_;rintro e w6 ⟨rfl,T⟩;have B6:=Aa (E.o.trans (T.mono E.o.size));clear T z0 z1 z2 z3 z4 z5 E;go_wp2_with fail;go_loopw [32] (λi wr=>∃k:Nat,k<=l.length/\i=zA k/\Below w.heap.size w wr) (λi wr=>l.length-(intOf i).toNat);case atStart=>exact⟨0,Bm _,rfl,B6.o⟩
  case round=>
   obtain⟨k,hk,rfl,hb⟩:=hrel;by_cases F:k<l.length
   ·obtain⟨b,o,U,c',rfl,d0,d1,d2,hx⟩:=J.get hb (λ_ _ h=>h) k F;obtain⟨G,H,V,W,rfl,Z,e1,e2,aj⟩:=al.get hb (λ_ _ h=>h) k F;have HX:=Aa hx;have ao:=Aa aj;have HB:=Aa hb;have aq:=Aa (λ(w':World)=>IH.o l[k] (Bu F) (.agg (zE l[k] U c')) (.agg (zE l[k] V W)) w' X Y);have KQ:Hid (∀w',Below wr.heap.size wr w'->(w'.cell? ⟨b,o+k*3,none⟩=some (zA l[k].kind)/\w'.cell? ⟨b,o+k*3+1,none⟩=some (zA l[k].idx)/\w'.cell? ⟨b,o+k*3+2,none⟩=some (.slice U l[k].subs.length c'))/\w'.cell? ⟨G,H+k*3,none⟩=some (zA l[k].kind)/\w'.cell? ⟨G,H+k*3+1,none⟩=some (zA l[k].idx)/\w'.cell? ⟨G,H+k*3+2,none⟩=some (.slice V l[k].subs.length W)):=λw' hb=>⟨⟨cell_later hb d0,cell_later hb d1,cell_later hb d2⟩,cell_later hb Z,cell_later hb e1,cell_later hb e2⟩;have ar:(k:Int)<(l.length:Int):=(by omega);clear hx aj hb d0 d1 d2 Z e1 e2;generalize l[k]=y at *;go_upto_region 7 with fail;have g:Below wr.heap.size wr wr.drew:=(Ac _ _).drew;refine CC (S:=λw'=>Below wr.heap.size wr w') (by kernel_rfl) g λhH=>?_;generalize wr.drew=wd at *;refine tkz 0 ?_;refine tkz 1 ?_;refine tkz 2 ?_;refine tkz 3 ?_ (hy:=by intro w' d; obtain⟨⟨A,B,C⟩,-⟩:=KQ.o w' d; go_simp<;>with_reducible rfl);refine tkz 4 ?_;refine tkz 5 ?_;refine tkz 6 ?_;refine tkz 7 ?_ (hy:=by intro w' d; obtain⟨-,A,B,C⟩:=KQ.o w' d; go_simp<;>with_reducible rfl);refine tkz 8 ?_;refine tkz 9 ?_;refine rdq 10 rfl λK m=>?_;go_simp;go_at_call 60;refine(aq.o wd (HX.o.later g) (ao.o.later g)).mono ?_;rintro e w7 ⟨rfl,ak⟩;have k7:=g.trans (ak.mono g.size);refine m.o _ _ (by exact k7) λhH=>?_;clear m K ak;(try simp only[Act.put,sq]);refine tkz 11 ?_;refine dnq ?_;have BZ:=Aa (HB.o.trans (k7.mono HB.o.size));go_wp2_with fail;go_roundw
    case rel=>exact⟨k+1,by omega,by go_num,BZ.o⟩
    case measure=>simp[intOf]; omega
   ·have ar:¬(k:Int)<(l.length:Int):=(by omega);go_wp2_with fail;go_ret;exact⟨rfl,hb⟩
theorem mA (t:Lm) (v u:Value) (w:World) (X Y:Nat->Prop) (b:MV w X v t) (hu:MV w Y u t):
  Calls prog 40 #[v,u] w λe w'=>e=.returned (.bool true)/\Below w.heap.size w w':=by
 have d:=Aa b;have f:=Aa hu;obtain⟨a,c,rfl,-⟩:=b;obtain⟨a2,c2,rfl,-⟩:=hu;go_enter func40,ntmps40;go_wp2_with fail;refine(lZ t _ _ _ X Y (d.o.later (EC _ _)) (f.o.later (EC _ _))).mono ?_;rintro e w1 ⟨rfl,g⟩;go_wp2_with fail;go_ret;exact⟨rfl,(EC _ _).trans (g.mono (by simp; omega))⟩
