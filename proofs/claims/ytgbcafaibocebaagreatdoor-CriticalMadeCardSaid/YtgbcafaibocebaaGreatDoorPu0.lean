import Derived.Test.YtgbcafaibocebaaGreatDoorW64
namespace Go.Proofs.YtgbcafaibocebaaGreatDoor
set_option linter.all false
set_option maxRecDepth 20000
set_option maxHeartbeats 8000000
open Go.RowKit
theorem JY {s:ByteArray} {a r:List Tm} (h:Ah (⟨s,a⟩::r)=0):AW s=true:=by
 rw[Ah]at h;split at h
 ·assumption
 ·cases h
theorem Lj {l:List Bd} (b:Cx l) {d:Bd} (hd:d∈l):As l d.nm=some d.t:=by
 induction l with
 |nil=>cases hd
 |cons a r c=>
  obtain⟨h1,h2⟩:=JB.1 b;rcases Bq.1 hd with rfl|hd
  ·simp[As]
  ·rw[As,Aj (h1 d hd)];exact c h2 hd
theorem Yo (a b:List Bd) (n:ByteArray):As (a++b) n=(As a n).or (As b n):=by
 induction a with
 |nil=>simp[As]
 |cons d r c=>
  rw[Cj,As,As];split
  ·rfl
  ·exact c
theorem FV (l:List Bd) (n:ByteArray):Ag l ⟨n,[]⟩=(As l n).getD ⟨n,[]⟩:=by
 cases h:As l n with
 |none=>rw[FN (Ae h)]; simp[Ap]
 |some t=>rw[IM h]; rfl
theorem QM {ls:List Bd} {d:Bd} (h:d∈ls):∃t,As ls d.nm=some t:=by
 induction ls with
 |nil=>cases h
 |cons a r b=>
  rw[As];split
  ·exact⟨_,rfl⟩
  ·rename_i c;rcases Bq.1 h with rfl|h
   ·exact absurd rfl c
   ·exact b h
theorem Lk:∀(ks:List Tm) (acc:List ByteArray) (n:ByteArray),n∈At acc ks->n∈acc∨∃k∈ks,k.name=n/\Al n=true
 | [],acc,n,h=>Ad (by simpa [At] using h)
 |k::r,acc,n,h=>by
  have e:At acc (k::r)=At (Bl acc k.name) r:=rfl;rw[e]at h;rcases Lk r _ n h with h1|⟨b,h1,h2⟩
  ·cases hv:Al k.name with
   |false=>rw[GJ hv] at h1; exact Ad h1
   |true=>
    cases hi:AJ k.name acc with
    |true=>rw[IP hv hi] at h1; exact Ad h1
    |false=>
     rw[Jx hv hi]at h1;rcases Bg.1 h1 with h1|h1
     ·exact Ad h1
     ·have a:n=k.name:=(by simpa using h1);exact Ae ⟨k,by simp,a.symm,by rw[a]; exact hv⟩
  ·exact Ae ⟨b,by simp[h1],h2⟩
theorem JZ:∀(ks:List Tm) (acc:List ByteArray),(∀n∈acc,n∈At acc ks)/\∀k∈ks,Al k.name=true->k.name∈At acc ks
 | [],acc=>⟨λn h=>by simpa [At] using h,λk h=>by cases h⟩
 |k::r,acc=>by
  have e:At acc (k::r)=At (Bl acc k.name) r:=rfl;rw[e];obtain⟨h1,h2⟩:=JZ r (Bl acc k.name);have aa:∀n∈acc,n∈Bl acc k.name:=λn hn=>by
   cases hv:Al k.name with
   |false=>rw[GJ hv]; exact hn
   |true=>
    cases hi:AJ k.name acc with
    |true=>rw[IP hv hi]; exact hn
    |false=>rw[Jx hv hi]; simp[hn]
  refine⟨λn hn=>h1 n (aa n hn),λa hk' ab=>?_⟩;rcases Bq.1 hk' with rfl|hk'
  ·refine h1 _ ?_;cases hi:AJ a.name acc with
   |true=>rw[IP ab hi];unfold AJ at hi;obtain⟨y,hy,b⟩:=Ei.1 hi;have c:y=a.name:=Eu (by simpa using b);rw[<-c]; exact hy
   |false=>rw[Jx ab hi]; simp
  ·exact h2 a hk' ab
