/- A part. -/
import Derived.Test.YteidaiooccmmmaaGreatDoorQP12
import Derived.Test.YteidaiooccmmmaaGreatDoorQP13
set_option maxHeartbeats 4000000
set_option maxRecDepth 100000
open Go renaming World->Wj,Value->Wx
namespace Go.Proofs.Qw
open Option renaming none->N,some->J
open Bool renaming true->Y,false->Z
open Value renaming int->I,string->U,slice->M,pointer->O,bool->C
open IntKind renaming i64->K
open Obj renaming cells->E
variable {a b:St}{o:OpD}
open Tryz
section
open Go.RowKit
theorem Fh(B k:Nat)(e:Wx)(R:List bD)(i d:Int)(a:St)(s:Nat)(b:ByteArray)(j:Int)(c:ByteArray)(f:Bool)(w:Wj)(H:ax B w k e R i d)(S:Sim a R i)(l:Low a s)(m:s<2199023255552)(n:B<=w.heap.size):
  Calls Yq.prog 56 #[O (J ⟨k,0,N⟩),U b,.agg #[I K j,U c,C f]] w (bQ B k (if 200<=a.count then a else cJ a b c f) (if 200<=a.count then⟨4,0,⟨#[]⟩⟩else⟨0,a.last+1,⟨#[]⟩⟩) w e R d):=by
 by_cases h:200<=a.count
 .rw [if_pos h,if_pos h];exact CL B k e R i d a b j c f w H S h
 .rw [if_neg h,if_neg h];exact CM B k e R i d a s b j c f w H S l m n h
theorem Fi(B k:Nat)(f:Wx)(R:List bD)(j e:Int)(c:St)(o:OpD)(w:Wj)(H:ax B w k f R j e)(S:Sim c R j)(a:o.kind=2\/o.kind=3\/o.kind=5)(m:aK o.key=Y)(p:B<=w.heap.size):
  Calls Yq.prog 57 #[O (J ⟨k,0,N⟩),aT o] w (bQ B k (aA c o).1 (aA c o).2 w f R e):=by
 by_cases b:∀x∈R,x.key≠o.key
 .exact CO B k f R j e c o w H S a m b
 .have:∃ (i:Nat) (h:i<R.length),R[i].key=o.key:=by
   rw[Classical.not_forall]at b;obtain⟨x,n⟩:=b;rw[Classical.not_imp,Classical.not_not]at n;obtain⟨i,l,rfl⟩:=gM n.1;exact⟨i,l,n.2⟩
  obtain⟨i,l,d⟩:=this;rcases a with h|h|h
  .exact Fe B k f R j e c o w H S h m i l d
  .exact CP B k f R j e c o w H S h m i l d
  .exact zV B k f R j e c o w H S h m i l d p
theorem FX(w:Wj)(cs:Array Wx)(b c e d f:Wx):∃a z,((w.alloc (E cs 30)).alloc (E #[b,c,e,d,f] 46)).heap[w.heap.size+1]?=J (E a 46 z):=
 ⟨#[b,c,e,d,f],(0,0),by have:=heap_alloc_new (w.alloc (E cs 30)) (E #[b,c,e,d,f] 46);rwa [show(w.alloc (E cs 30)).heap.size=w.heap.size+1 by simp]at this⟩
theorem zW(B k:Nat)(p:Wx)(R:List bD)(t r:Int)(q:St)(o:OpD)(w:Wj)(H:ax B w k p R t r)(S:Sim q R t)(hB:B<=w.heap.size)(c:o.kind=2\/o.kind=3\/o.kind=5)(z:aK o.key=Y):
  Calls Yq.prog 27 #[O (J ⟨k,0,N⟩),aT o] w (bQ B k (aA q o).1 (aA q o).2 w p R r):=by
 have A:=of_decide_eq_true z;obtain⟨y,u⟩:=A;have G:¬o.kind=1:=by omega
 have D:¬o.kind=4:=by omega
 have R0:=Fc (w.alloc (E #[I K o.kind,U o.key,U o.body,U o.delim,U o.past,I K o.n,I K o.src] 30)) (w.heap.size+1) (by simp) 46;have HC:=Fi B k p R t r q o ((w.alloc (E #[I K o.kind,U o.key,U o.body,U o.delim,U o.past,I K o.n,I K o.src] 30)).alloc (E #[I K 0,I K 0,U ⟨#[]⟩,M N 0 0,U ⟨#[]⟩] 46)) ((H.alloc _).alloc _) S c z (by simp;omega);obtain⟨a,h,d,b,f,L,j⟩:=o;simp only at G D y u HC R0;have b1:(a==1)=false:=by simp[G]
 have b4:(a==4)=false:=by simp[D]
 have HH:Hid (ax B w k p R t r):=H;have m:Hid (jG (w.heap.size+1) ((w.alloc (E #[I K a,U h,U d,U b,U f,I K L,I K j] 30)).alloc (E #[I K 0,I K 0,U ⟨#[]⟩,M N 0 0,U ⟨#[]⟩] 46))):=R0;clear H S c z R0 G D;generalize aA q ⟨a,h,d,b,f,L,j⟩=sr at *;obtain⟨P,Q,V,T⟩:=sr;simp only at HC ⊢;unfold bQ;unfold bQ at HC;simp only[aT,aD]at HC ⊢;go_enter (Yq.nq func27),ntmps27;go_wp2_with fail
 refine HC.mono ?_;rintro e X ⟨rfl,s,R',i,H',S',F⟩;have⟨d0,d1,d2,d3,d4,l⟩:=m.out.frame F (HH.out.old (by omega));have g0:=l 0;have g1:=l 1;have g2:=l 2;have g3:=l 3;have g4:=l 4;have HE:Hid (ax B X k s R' i r/\Sim P R' i/\bu ((w.alloc (E #[I K a,U h,U d,U b,U f,I K L,I K j] 30)).alloc (E #[I K 0,I K 0,U ⟨#[]⟩,M N 0 0,U ⟨#[]⟩] 46)) X k p R):=⟨H',S',F⟩;clear HC H' S' F l;go_wp2;refine bodyPost_ret (v:=aD ⟨Q,V,T⟩) (by simp[results,results27,go_sem,aD,d0,d1,d2,d3,d4]) rfl ⟨rfl,?_⟩;obtain⟨e1,e2⟩:=FW HH.out (x:=w.heap.size+1) (((bR _ w).alloc (lR _) _).alloc (by simp) _) (by omega) m.out.lt (FX w _ _ _ _ _ _) HE.out.1 HE.out.2.2 (I K Q) (I K V) (U T) (M N 0 0) (U ⟨#[]⟩);exact⟨s,R',i,e1,HE.out.2.1,e2⟩
theorem zX(hkind:1<=o.kind/\o.kind<=5)(b:aK o.key=Z):aA a o=(a,⟨2,0,⟨#[]⟩⟩):=by
 have h:o.kind=1\/o.kind=2\/o.kind=3\/o.kind=4\/o.kind=5:=by omega
 rcases h with h|h|h|h|h<;>simp[aA,h,b]
theorem wE(a:o.kind=1)(c:aK o.key=Y)(d:100<o.body.size):aA b o=(b,⟨3,0,⟨#[]⟩⟩):=by
 simp[aA,a,c,d]
theorem uy(b:o.kind=1)(c:aK o.key=Y)(d:¬100<o.body.size)(e:¬a.last=9223372036854775807):aA a o=(if 200<=a.count then a else cJ a o.key o.body Z,if 200<=a.count then⟨4,0,⟨#[]⟩⟩else⟨0,a.last+1,⟨#[]⟩⟩):=by
 by_cases h:200<=a.count<;>simp[aA,b,c,d,h,e]
theorem rH(b:o.kind=4)(d:aK o.key=Y)(c:¬a.last=9223372036854775807):aA a o=(if 200<=a.count then a else cJ a o.key ⟨#[]⟩ Y,if 200<=a.count then⟨4,0,⟨#[]⟩⟩else⟨0,a.last+1,⟨#[]⟩⟩):=by
 by_cases h:200<=a.count<;>simp[aA,b,d,h,c]
theorem uz(B k:Nat)(q:Wx)(R:List bD)(p y:Int)(u:St)(o:OpD)(c:Int)(w:Wj)(H:ax B w k q R p y)(S:Sim u R p)(A:(c=2/\aK o.key=Z)\/(c=3/\o.kind=1/\aK o.key=Y/\100<o.body.size)):
  Calls Yq.prog 27 #[O (J ⟨k,0,N⟩),aT o] w (bQ B k u ⟨c,0,⟨#[]⟩⟩ w q R y):=by
 have R0:=Fc (w.alloc (E #[I K o.kind,U o.key,U o.body,U o.delim,U o.past,I K o.n,I K o.src] 30)) (w.heap.size+1) (by simp) 46;obtain⟨d,a,b,f,m,V,z⟩:=o;simp only at A R0;have x:(c=2/\a.size<1)\/(c=2/\¬a.size<1/\40<a.size)\/(c=3/\d=1/\¬a.size<1/\¬40<a.size/\100<b.size):=by
  rcases A with⟨i,l⟩|⟨i,l,D,Q⟩
  .have:=of_decide_eq_false l;by_cases h:a.size<1
   .exact Or.inl ⟨i,h⟩
   .exact Or.inr (Or.inl ⟨i,h,by omega⟩)
  .have:=of_decide_eq_true D;exact Or.inr (Or.inr ⟨i,l,by omega,by omega,Q⟩)
 have HH:Hid (ax B w k q R p y/\Sim u R p):=⟨H,S⟩;have t:Hid (jG (w.heap.size+1) ((w.alloc (E #[I K d,U a,U b,U f,U m,I K V,I K z] 30)).alloc (E #[I K 0,I K 0,U ⟨#[]⟩,M N 0 0,U ⟨#[]⟩] 46))):=R0;have r:=H.lt;clear H S R0 A;unfold bQ;simp only[aT,aD];rcases x with⟨rfl,i⟩|⟨rfl,i,l⟩|⟨rfl,rfl,i,l,D⟩;all_goals
  first|have h0:a.size=0:=by omega|skip
  go_enter (Yq.nq func27),ntmps27;go_wp2_with fail
  refine(eF _ _).mono ?_;rintro e X ⟨rfl,s⟩;have HB:Hid (Below w.heap.size w X):=(((bR _ w).alloc (lR _) _).alloc (by simp) _).trans (s.mono (by simp;omega));have⟨G,T,F,L,P,j⟩:=t.out.on s;have g0:=j 0;have g1:=j 1;have g2:=j 2;have g3:=j 3;have g4:=j 4;clear s j;unfold aD;go_wp2;refine bodyPost_ret (v:=aD ⟨_,0,⟨#[]⟩⟩) (by simp[results,results27,go_sem,aD,G,T,F,L,P]) rfl ⟨rfl,?_⟩;exact⟨q,R,p,HH.out.1.below (dH HB.out (by omega) _ _ _ _ _),HH.out.2,bI r (dH HB.out (by omega) _ _ _ _ _) _ _⟩
theorem qp(B k:Nat)(p:Wx)(R:List bD)(P r:Int)(d:St)(s:Nat)(o:OpD)(A:ByteArray)(z:Bool)(w:Wj)(H:ax B w k p R P r)(S:Sim d R P)(hI:Low d s)(hs:s<2199023255552)(hB:B<=w.heap.size)(hk:aK o.key=Y)
  (hc:(o.kind=1/\¬100<o.body.size/\A=o.body/\z=Z)\/(o.kind=4/\A=⟨#[]⟩/\z=Y)):
  Calls Yq.prog 27 #[O (J ⟨k,0,N⟩),aT o] w (bQ B k (if 200<=d.count then d else cJ d o.key A z) (if 200<=d.count then⟨4,0,⟨#[]⟩⟩else⟨0,d.last+1,⟨#[]⟩⟩) w p R r):=by
 have V:=of_decide_eq_true hk;obtain⟨T,Q⟩:=V;have R0:=Fc (w.alloc (E #[I K o.kind,U o.key,U o.body,U o.delim,U o.past,I K o.n,I K o.src] 30)) (w.heap.size+1) (by simp) 46;have HC:=Fh B k p R P r d s o.key 0 A z ((w.alloc (E #[I K o.kind,U o.key,U o.body,U o.delim,U o.past,I K o.n,I K o.src] 30)).alloc (E #[I K 0,I K 0,U ⟨#[]⟩,M N 0 0,U ⟨#[]⟩] 46)) ((H.alloc _).alloc _) S hI hs (by simp;omega);obtain⟨i,l,f,c,h,X,t⟩:=o;simp only at T Q HC R0 hc;have HH:Hid (ax B w k p R P r):=H;have y:Hid (jG (w.heap.size+1) ((w.alloc (E #[I K i,U l,U f,U c,U h,I K X,I K t] 30)).alloc (E #[I K 0,I K 0,U ⟨#[]⟩,M N 0 0,U ⟨#[]⟩] 46))):=R0;clear H S hk R0 hI hs;generalize(if 200<=d.count then d else cJ d l A z)=q at *;generalize(if 200<=d.count then(⟨4,0,⟨#[]⟩⟩:Ax)else⟨0,d.last+1,⟨#[]⟩⟩)=sr at *;obtain⟨D,L,G⟩:=sr;unfold bQ;unfold bQ at HC;simp only[aT,aD]at HC ⊢;have m:∀j,Hid (∃b R' a,ax B j k b R' a r/\Sim q R' a/\bu ((w.alloc (E #[I K i,U l,U f,U c,U h,I K X,I K t] 30)).alloc (E #[I K 0,I K 0,U ⟨#[]⟩,M N 0 0,U ⟨#[]⟩] 46)) j k p R) ->
   ∃b R' a,ax B (((((j.setCell ⟨w.heap.size+1,0,N⟩ (I K D)).setCell ⟨w.heap.size+1,1,N⟩ (I K L)).setCell ⟨w.heap.size+1,2,N⟩ (U G)).setCell ⟨w.heap.size+1,3,N⟩ (M N 0 0)).setCell ⟨w.heap.size+1,4,N⟩ (U ⟨#[]⟩)) k b R' a r/\Sim q R' a /\
    bu w (((((j.setCell ⟨w.heap.size+1,0,N⟩ (I K D)).setCell ⟨w.heap.size+1,1,N⟩ (I K L)).setCell ⟨w.heap.size+1,2,N⟩ (U G)).setCell ⟨w.heap.size+1,3,N⟩ (M N 0 0)).setCell ⟨w.heap.size+1,4,N⟩ (U ⟨#[]⟩)) k p R:=λj hX=>by
  have⟨b,R',a,H',S',F⟩:=hX.out;obtain⟨e1,e2⟩:=FW HH.out (x:=w.heap.size+1) (((bR _ w).alloc (lR _) _).alloc (by simp) _) (by omega) y.out.lt (FX w _ _ _ _ _ _) H' F (I K D) (I K L) (U G) (M N 0 0) (U ⟨#[]⟩);exact⟨b,R',a,e1,S',e2⟩
 have KEY2:Hid (∀j,Hid (∃b R' a,ax B j k b R' a r/\Sim q R' a/\bu ((w.alloc (E #[I K i,U l,U f,U c,U h,I K X,I K t] 30)).alloc (E #[I K 0,I K 0,U ⟨#[]⟩,M N 0 0,U ⟨#[]⟩] 46)) j k p R)->_):=m;clear m;rcases hc with⟨rfl,hbd,rfl,rfl⟩|⟨rfl,rfl,rfl⟩ <;>
 .go_enter (Yq.nq func27),ntmps27;go_wp2_with fail
  refine HC.mono ?_;rintro e j ⟨rfl,b,R',a,H',S',F⟩;have⟨d0,d1,d2,d3,d4,u⟩:=y.out.frame F (HH.out.old (by omega));have g0:=u 0;have g1:=u 1;have g2:=u 2;have g3:=u 3;have g4:=u 4;have HE:=KEY2.out j ⟨b,R',a,H',S',F⟩;have aa:Hid _:=HE;clear HC H' S' F u HE KEY2;go_wp2;exact bodyPost_ret (v:=aD ⟨D,L,G⟩) (by simp[results,results27,go_sem,aD,d0,d1,d2,d3,d4]) rfl ⟨rfl,aa.out⟩
theorem zY(B k:Nat)(d:Wx)(R:List bD)(f c:Int)(b:St)(s:Nat)(o:OpD)(w:Wj)(H:ax B w k d R f c)(S:Sim b R f)(i:Low b s)(m:s<2199023255552)(l:B<=w.heap.size)(e:1<=o.kind/\o.kind<=5):
  Calls Yq.prog 27 #[O (J ⟨k,0,N⟩),aT o] w (bQ B k (aA b o).1 (aA b o).2 w d R c):=by
 cases a:aK o.key with
 |false=>rw[zX e a];exact uz B k d R f c b o 2 w H S (Or.inl ⟨rfl,a⟩)
 |true=>
  have h:o.kind=1\/o.kind=4\/o.kind=2\/o.kind=3\/o.kind=5:=by omega
  rcases h with h|h|h
  .by_cases j:100<o.body.size
   .rw [wE h a j];exact uz B k d R f c b o 3 w H S (Or.inr ⟨rfl,h,a,j⟩)
   .rw [uy h a j (by have:=i.lastS;omega)];exact qp B k d R f c b s o o.body Z w H S i m l a (Or.inl ⟨h,j,rfl,rfl⟩)
  .rw [rH h a (by have:=i.lastS;omega)];exact qp B k d R f c b s o ⟨#[]⟩ Y w H S i m l a (Or.inr ⟨h,rfl,rfl⟩)
  .exact zW B k d R f c b o w H S l h a
end
