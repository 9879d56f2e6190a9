/- A part. -/
import Derived.Test.YthnlbojplkflaaaGreatDoorQP11
set_option maxHeartbeats 4000000
set_option maxRecDepth 100000
open List renaming length_pos_iff->dT,isPrefixOf_iff_prefix->ey,prefix_iff_eq_take->eV,getElem_mem->eW,mem_map->gI,foldl_append->gL,any_eq_true->kr,take_length->lj,foldl_cons->lk,map_append->nF
open Go.ByteArray renaming toList_eq->n8
open _root_ renaming ByteArray->pt,UInt8->sq,Int->sT,if_pos->tb,if_neg->tn,if_false->uc,congrArg->vf,Bool->vx,if_true->wz
open Go renaming wpList_append_own->xb,maxLen->xc,below_drewN->xt
open Go.Op renaming bytesLess->xv
open Go.World renaming ownsRow_nil->yz
open Go.Value renaming int->Rj,bool->Rk,oneCell'->Rl
open Go renaming World->Wj,Value->Wx
namespace Go.Proofs.Qw
open _root_ renaming rfl->Q
open _root_ renaming Nat->H,List->S
open Option renaming none->N,some->J
open Bool renaming true->Y,false->Z
open Value renaming int->I,string->U,slice->M,pointer->O,bool->C
open IntKind renaming i64->K
open Obj renaming cells->E
open Ending renaming returned->Rc
open Or renaming inl->Rf,inr->Rg
variable {NA l:S ItD}{q:Qy}{a:S sq×S Ver}
open Tryz
section
open Go.RowKit
theorem I9(a b:pt):xv a.toList b.toList=decide (a.data.toList<b.data.toList):=by rw[Proofs.bytesLess_eq,n8,n8]
theorem FS a b w:Calls Yq.prog 110 #[itVal a,itVal b] w λe p=>e=Rc (C (oS a b))/\Below w.heap.size w p:=by
 obtain⟨k,f,n⟩:=a;obtain⟨i,j,m⟩:=b;have HB:Hid (∀c d,Below w.heap.size w ((w.alloc c).alloc d)):=λc d=>((Q9).alloc Q0 _).alloc (by simp) _
 unfold itVal;by_cases l:f=j
 subst l;have q:=xA f;have h:oS ⟨k,f,n⟩ ⟨i,f,m⟩=if(k==2)=(i==2)then decide (m<n)else(i==2):=by simp only[oS,wz];rfl
 rw[h];clear h;cases h1:(k==2)<;>cases h2:(i==2) <;>
 .simp only[reduceCtorEq,wz,uc];go_enter (Yq.nq func110),ntmps110;go_wp2_with fail
  go_ret;exact⟨Q,HB.o _ _⟩
 have q:=xB l;have h:oS ⟨k,f,n⟩ ⟨i,j,m⟩=xv f.toList j.toList:=by rw[I9];simp only[oS,l,uc];rfl
 rw[h];clear h;generalize h:xv f.toList j.toList=z;clear l;go_enter (Yq.nq func110),ntmps110;go_wp2_with fail
 go_ret;exact⟨Q,HB.o _ _⟩
theorem Ja{c s}(a:c≠[])(h:s.length<c.length):dO c s=none:=by
 cases b:dO c s with
 |none=>rfl
 |some i=>have:=j7 a s i b;omega
def cpart(k p d:pt):pt:=match bc ⟨Z,p,d,⟨#[]⟩⟩ k.data.toList with
 |none=>⟨#[]⟩
 |some c=>⟨c.toArray⟩
def MY(s d:pt):Option H->pt
 |none=>⟨#[]⟩
 |some j=>s.extract 0 (j+d.size)
theorem FT(s p d:pt)w(hs:s.size<=1000)(hp:p.size<=1000)(hd:d.size<=140737488351232):Calls Yq.prog 87 #[U s,U p,U d] w λe D=>e=Rc (U (cpart s p d))/\D=w:=by
 have hps:p.data.toList.length=p.size:=by simp
 have t:d.data.toList.length=d.size:=by simp
 have hss:s.data.toList.length=s.size:=by simp
 by_cases y:d=⟨#[]⟩
 .subst y;have e:cpart s p ⟨#[]⟩=⟨#[]⟩:=rfl;rw[e];go_enter (Yq.nq func87),ntmps87;go_wp2;go_ret;exact⟨Q,Q⟩
 .have hz:=iZ y;have l:=λe=>y (ByteArray.ext (Array.toList_inj.1 e))
  have HD:Hid (d.data.toList≠[]):=l;have v:0<d.size:=by have:=dT.2 l;omega
  have HI:Hid (∀x,(dO d.data.toList (s.data.toList.drop p.size)).map (p.size+·)=x->cpart s p d=MY s d x):=λx F=>by
   subst F;unfold cpart bc;rw[tn (show¬d.size=0 by omega)];cases dO d.data.toList (s.data.toList.drop p.size)with
   |none=>rfl
   |some j=>
    refine ByteArray.ext (Array.toList_inj.1 ?_);show s.data.toList.take (p.size+j+d.size)=_;simp[MY]
  have HB:Hid (∃h,(dO d.data.toList (s.data.toList.drop p.size)).map (p.size+·)=h):=⟨_,Q⟩;generalize cpart s p d=n at *;have⟨h,b⟩:=HB.o;have HB:Hid (h=(dO d.data.toList (s.data.toList.drop p.size)).map (p.size+·)):=b.s;have HI:Hid (n=MY s d h):=HI.o _ b;clear l y b v;go_enter (Yq.nq func87),ntmps87;go_wp2_with fail
  go_loopw [7] (λs7 wr=>∃i:H,i<=p.size+s.size/\s7=I K i/\wr=w/\h=(dO d.data.toList (s.data.toList.drop i)).map (i+·)) (λs7 _=>p.size+s.size-(intOf s7).toNat)
  case atStart=>exact⟨p.size,by omega,Q,Q,HB.o⟩
  case round=>
   obtain⟨i,hi,rfl,rfl,b⟩:=hrel;have k:Hid (h=(dO d.data.toList (s.data.toList.drop i)).map (i+·)):=b;clear b HB;have hdp:0<d.size:=by have:=dT.2 HD.o;omega
   by_cases hlt:i+d.size<=s.size
   .have u:(i:sT)+d.size<=s.size:=by omega
    have A:i<s.data.toList.length:=by omega
    have a:dO d.data.toList (s.data.toList.drop i)=if d.data.toList.isPrefixOf (s.data.toList.drop i)then J 0 else(dO d.data.toList (s.data.toList.drop (i+1))).map (·+1):=by
     rw[List.drop_eq_getElem_cons A,dO]
    have f:(s.extract i (i+d.size)).toList=(s.data.toList.drop i).take d.size:=by
     rw[n8,Lib.extract_data,Nat.add_sub_cancel_left]
    by_cases hE:d.data.toList.isPrefixOf (s.data.toList.drop i)=Y
    .have B:(s.extract i (i+d.size)).toList=d.toList:=by
      rw[f,n8,<-t];exact(eV.1 (ey.1 hE)).s
     have c:n=s.extract 0 (i+d.size):=by
      have r:=k.o;rw[a,tb hE]at r;have:=HI.o;rw[r]at this;exact this
     have m:Hid (n=s.extract 0 (i+d.size)):=c;clear a f hE c;go_wp2;go_ret;exact⟨by rw[m.o];rfl,Q⟩
    .have B:¬(s.extract i (i+d.size)).toList=d.toList:=λe=>hE (by
      rw[f,n8,<-t]at e;exact ey.2 (eV.2 e.s))
     have he2:((s.extract i (i+d.size)).toList==d.toList)=false:=by simpa using B
     have q:h=(dO d.data.toList (s.data.toList.drop (i+1))).map (i+1+·):=by
      rw[k.o,a,tn hE,Option.map_map];congr 1;funext j;show i+(j+1)=i+1+j;omega
     have z:Hid (h=(dO d.data.toList (s.data.toList.drop (i+1))).map (i+1+·)):=q;clear a f hE q;go_wp2_with fail
     exact⟨⟨i+1,by omega,by go_num,trivial,z.o⟩,by simp[intOf];omega⟩
   .have u:¬(i:sT)+d.size<=s.size:=by omega
    have c:n=⟨#[]⟩:=by
     have r:=k.o;rw[Ja HD.o (by rw[lD];omega)]at r;have:=HI.o;rw[r]at this;exact this
    have m:Hid (n=⟨#[]⟩):=c;clear c;go_wp2;go_ret;exact⟨by rw[m.o];rfl,Q⟩
theorem Nu{x b}(h:GD x b=Z):(x.kind==b.kind)=Z\/((x.kind==b.kind)=Y/\(x.text.toList==b.text.toList)=Z)\/((x.kind==b.kind)=Y/\(x.text.toList==b.text.toList)=Y/\(x.NP==b.NP)=Z):=by
 by_cases c:x.kind=b.kind
 .by_cases d:x.text=b.text
  .refine Rg (Rg ⟨by simp[c],by rw[d];exact xA _,?_⟩);simp[GD,c,d]at h;simp[h]
  .exact Rg (Rf ⟨by simp[c],xB d⟩)
 .grind
theorem kj l:∀u∈az l,u.oneCell'=true:=by
 intro u a;simp only[az,List.mem_flatMap]at a;obtain⟨x,-,b⟩:=a;simp at b;rcases b with rfl|rfl|rfl<;>rfl
theorem Jb{x:ItD}{i:H}(h:i<l.length):atN x l (i+1)=if oS l[i] x then i+1 else atN x l i:=by
 rw[atN,eL h]
theorem Ba B v l x w(h:w.ownsRow B 67 3 v l.length (az l))(hB:B<=w.heap.size)(hn:l.length<=1000):
  Calls Yq.prog 88 #[v,itVal x] w λe w'=>∃v',e=Rc v'/\w'.ownsRow B 67 3 v' (bE l x).length (az (bE l x))/\Below w.heap.size w w':=by
 obtain⟨a,c,rfl,hx⟩:=(po h).form;have HX:Hid (l≠[]->∃g,a=J ⟨g,0,N⟩/\∀j,j<l.length*3->w.cell? ⟨g,j,N⟩=(az l)[j]?):=hx;have HH:Hid (w.ownsRow B 67 3 (M a l.length c) l.length (az l)):=h;clear hx h;obtain⟨n,ar⟩:∃n,l.length=n:=⟨_,Q⟩;have HN:Hid (l.length=n):=ar;rw[ar]at hn ⊢;clear ar;have HL:Hid (∀ (i:H) (h:i<l.length) (w:Wj),Calls Yq.prog 110 #[itVal l[i],itVal x] w λe w'=>e=Rc (C (oS l[i] x))/\Below w.heap.size w w'):=λi h w=>FS _ _ w
 obtain⟨f,d,b⟩:=x;unfold itVal at *;have⟨i0,V,aa,ad,R⟩:=info_parts Yq.Od;go_enter (Yq.nq func88),ntmps88;go_wp2_with fail
 have a7:Below w.heap.size w (w.alloc (E #[I K f,U d,I K b] 67)):=(bR _ w).alloc Q0 _;have x0:(w.alloc (E #[I K f,U d,I K b] 67)).cell? ⟨w.heap.size,0,N⟩=J (I K f):=by rw[cA (w:=w) _ _ w.heap.size 0 Q];rfl
 have x1:(w.alloc (E #[I K f,U d,I K b] 67)).cell? ⟨w.heap.size,1,N⟩=J (U d):=by rw[cA (w:=w) _ _ w.heap.size 1 Q];rfl
 have x2:(w.alloc (E #[I K f,U d,I K b] 67)).cell? ⟨w.heap.size,2,N⟩=J (I K b):=by rw[cA (w:=w) _ _ w.heap.size 2 Q];rfl
 have HW:Hid (Below w.heap.size w (w.alloc (E #[I K f,U d,I K b] 67))/\(w.alloc (E #[I K f,U d,I K b] 67)).cell? ⟨w.heap.size,0,N⟩=J (I K f)/\(w.alloc (E #[I K f,U d,I K b] 67)).cell? ⟨w.heap.size,1,N⟩=J (U d)/\(w.alloc (E #[I K f,U d,I K b] 67)).cell? ⟨w.heap.size,2,N⟩=J (I K b)):=⟨a7,x0,x1,x2⟩;clear a7 x0 x1 x2;generalize w.alloc (E #[I K f,U d,I K b] 67)=Wz at *
 go_loopw [5,6] (λs5 s6 wr=>∃i:H,i<=n/\s6=I K i/\s5=I K (atN ⟨f,d,b⟩ l i:H)/\(∀j (h:j<l.length),j<i->GD l[j] ⟨f,d,b⟩=Z)/\Below Wz.heap.size Wz wr) (λ_ s6 _=>n-(intOf s6).toNat)
 case atStart=>exact⟨0,Q8,Q,Q,λj h hj=>absurd hj (by omega),Q9⟩
 case round=>
  obtain⟨i,hin,rfl,rfl,a2,hb⟩:=hrel;have a5:Hid (∀j (h:j<l.length),j<i->GD l[j] ⟨f,d,b⟩=Z):=a2;have a3:Hid (Below Wz.heap.size Wz wr):=hb;have HB:Hid (Below w.heap.size w wr):=HW.o.1.t (hb.m HW.o.1.size);have x0:=ag hb HW.o.2.1;have x1:=ag hb HW.o.2.2.1;have x2:=ag hb HW.o.2.2.2;clear a2 hb;by_cases bt:i<n
  .have G:i<l.length:=by rw[HN.o];exact bt
   have bd:l≠[]:=by intro e;rw[e]at G;simp at G
   obtain⟨g,rfl,hc⟩:=HX.o bd;have⟨e0,e1,e2⟩:=nQ l i G;have c0:=ag HB.o ((hc (i*3) (by omega)).t e0);have c1:=ag HB.o ((hc (i*3+1) (by omega)).t e1);have c2:=ag HB.o ((hc (i*3+2) (by omega)).t e2);have a0:=HL.o i G;have ap:=Jb (x:=⟨f,d,b⟩) G;have hii:(i:sT)<n:=by omega
   cases hq:GD l[i] ⟨f,d,b⟩with
   |true=>
    have HQ:Hid (bE l ⟨f,d,b⟩=l):=by
     show bE l ⟨f,d,b⟩=l;unfold bE;rw[tb (kr.2 ⟨_,eW G,hq⟩)]
    rw[uB]at hq;rw[hq]at c0 c1 c2;clear hq hc e0 e1 e2 ap a0 HL;simp only at c0 c1 c2;go_wp2
    go_region
    all_goals
     go_wp2;go_ret;have hd:=HB.o.drew;refine⟨_,Q,?_,hd⟩;rw[HQ.o,HN.o];have h:=HH.o;rw[HN.o]at h;exact h.kept (aQ hd N) (eh _)
   |false=>
    have HQ:Hid (GD l[i] ⟨f,d,b⟩=Z):=hq;have hk:=Nu hq;have bw:Hid (∀j (h:j<l.length),j<i+1->GD l[j] ⟨f,d,b⟩=Z):=λj h hj=>by
     rcases Nat.lt_or_ge j i with h1|h1
     .exact a5.o j h h1
     .have:j=i:=by omega
      subst this;exact hq
    have bx:Hid (atN ⟨f,d,b⟩ l (i+1)=if oS l[i] ⟨f,d,b⟩then i+1 else atN ⟨f,d,b⟩ l i):=ap;clear hq ap hc e0 e1 e2 HL HX;generalize l[i]=it at *;generalize hls:oS it ⟨f,d,b⟩=ls at *;obtain⟨ik,itx,iv⟩:=it;simp only at c0 c1 c2 hk a0;rcases hk with hk|⟨hk,bv⟩|⟨hk,bv,hk3⟩<;>cases ls <;>
    .go_wp2
     go_region
     all_goals
      go_wp2_with fail
      go_region_with (go_at_call 110;refine(a0 _).m ?_;rintro e w2 ⟨rfl,b2⟩)
      all_goals
       go_wp2_with fail
       refine⟨⟨i+1,by omega,by go_num,?_,bw.o,a3.o.drew.drew.t (b2.m a3.o.drew.drew.size)⟩,by simp[intOf];omega⟩;rw[bx.o];simp
  .have bq:i=n:=by omega
   subst bq;have hm:=JM ⟨f,d,b⟩ l i;have HP:Hid (bE l ⟨f,d,b⟩=l.take (atN ⟨f,d,b⟩ l i)++⟨f,d,b⟩::l.drop (atN ⟨f,d,b⟩ l i)):=by
    show bE l ⟨f,d,b⟩=_;unfold bE;rw[tn,HN.o];intro h;have⟨z,hz,e⟩:=kr.1 h;obtain⟨j,hj,rfl⟩:=gM hz;rw[a5.o j hj (by rw[<-HN.o];exact hj)]at e;cases e
   generalize atN ⟨f,d,b⟩ l i=m at *;have F:=HH.o;rw[HN.o]at F;rcases F.2 with⟨hv,h0⟩|⟨g,ac,P,hv,-,-,bn,bi,-⟩
   .subst h0;injection hv with hv1 _ hv2
    subst hv1;subst hv2;have b0:m=0:=by omega
    subst b0;clear HX HL F;have be:l=[]:=List.length_eq_zero_iff.1 HN.o;subst be
    go_upto_region 12 with fail
    have av:Hid (∀j u,[Rj K f,U d,I K b][j]?=J u->(wr.alloc (E #[I K f,U d,I K b] 67)).cell? ((⟨wr.heap.size,0,N⟩:Addr).add j)=J u):=nE wr (I K f) (U d) (I K b) 67;have L:wr.heap.size<=(wr.alloc (E #[I K f,U d,I K b] 67)).heap.size:=by simp
    have bp:Hid (Below wr.heap.size wr (wr.alloc (E #[I K f,U d,I K b] 67))):=(bR _ wr).alloc Q0 _
    go_upto_region 13 with(at_builtin;go_loud (refine xb _ Q _ _ 51 Q wr.heap.size 67 i0 _ 3 32 (Yq.u underlying51) V aa ad R Q (by decide) _ 0 [] Q (yz _ _ _ _) ⟨wr.heap.size,0,N⟩ 1 1 [I K f,U d,I K b] Q Q av.o (by simp[Rl]) (by simp only[xc];omega) (by omega) L ?_);intro v2 w2 D af _;obtain⟨ai,X,rfl,-⟩:=ao D)
    have y:Hid (Below wr.heap.size wr w2/\w2.ownsRow wr.heap.size 67 3 (M ai (0+1) X) (0+1) [I K f,U d,I K b]):=⟨bp.o.grown (row:=N) af L (λk e=>by cases e),by simpa using D⟩;obtain⟨g2,cap2,b4,-⟩:=bm y.o.2 (by omega);have hcap:1<=X:=by
     rcases y.o.2.2 with⟨hv,h0⟩|⟨g,ac,P,hv,-,-,bn,bi,-⟩
     .cases h0
     .injection hv with hv1 _ hv2
      omega
    clear D af;cases b4;go_wp2_with fail
    go_ret;refine⟨_,Q,?_,HB.o.t (y.o.1.m HB.o.size)⟩;rw[HP.o];have p:=y.o.2;exact⟨p.1,p.2.imp id λ⟨g,ac,P,e,hb,r⟩=>⟨g,ac,P,e,lT hB (lT HB.o.size hb),r⟩⟩
   .injection hv with hv1 _ hv2
    subst hv1;subst hv2;clear HX HL F;have hmc:m<=c:=by omega
    have hmc':(m:sT)<=c:=by omega
    have bs:(az (l.take m)).length=m*3:=by rw[gV,tL,HN.o];congr 1;omega
    have bl:Hid (∀t u,(az (l.take m))[t]?=J u->wr.cell? ((⟨g,0,N⟩:Addr).add t)=J u):=λt u ht=>by
     refine ag HB.o (HH.o.cells (g:=g) Q t u ?_);have h3:az (l.take m)=(az l).take (m*3):=(iN 3 _ (λ_=>Q) l m).s;rw[h3,List.getElem?_take]at ht;split at ht
     .exact ht
     .cases ht
    go_upto_region 12 with(at_builtin;go_loud (refine xb _ Q _ _ 51 Q wr.heap.size 67 i0 _ 3 32 (Yq.u underlying51) V aa ad R Q (by decide) _ 0 [] Q (yz _ _ _ _) ⟨g,0,N⟩ m c (az (l.take m)) Q bs bl.o (kj _) (by simp only[xc];omega) (by omega) Q0 ?_);intro v1 w1 aj a8 _;obtain⟨a9,bb,rfl,-⟩:=ao aj)
    have A:Hid (Below wr.heap.size wr w1/\w1.ownsRow wr.heap.size 67 3 (M a9 m bb) m (az (l.take m))):=⟨(bR _ wr).grown (row:=N) a8 Q0 (λk e=>by cases e),by simpa using aj⟩;clear aj a8;replace x0:=ag A.o.1 x0;replace x1:=ag A.o.1 x1;replace x2:=ag A.o.1 x2;have al:Hid ((w1.alloc (E #[I K f,U d,I K b] 67)).ownsRow wr.heap.size 67 3 (M a9 m bb) m (az (l.take m))/\Below wr.heap.size wr (w1.alloc (E #[I K f,U d,I K b] 67))):=⟨A.o.2.alloc _,A.o.1.alloc A.o.1.size _⟩;have av:Hid (∀j u,[Rj K f,U d,I K b][j]?=J u->(w1.alloc (E #[I K f,U d,I K b] 67)).cell? ((⟨w1.heap.size,0,N⟩:Addr).add j)=J u):=nE w1 (I K f) (U d) (I K b) 67;have L:=al.o.2.size
    go_upto_region 13 with(at_builtin;go_loud (refine xb _ Q _ _ 51 Q wr.heap.size 67 i0 _ 3 32 (Yq.u underlying51) V aa ad R Q (by decide) _ m _ Q al.o.1 ⟨w1.heap.size,0,N⟩ 1 1 [I K f,U d,I K b] Q Q av.o (by simp[Rl]) (by simp only[xc];omega) (by omega) L ?_);intro v2 w2 D af _;obtain⟨ai,X,rfl,-⟩:=ao D)
    have y:Hid (Below wr.heap.size wr w2/\w2.ownsRow wr.heap.size 67 3 (M ai (m+1) X) (m+1) (az (l.take m)++[I K f,U d,I K b])):=⟨al.o.2.grown af L (λk e=>(A.o.2.lt k e).1),D⟩;clear D af;obtain⟨q,hq⟩:∃q,i=m+q:=⟨i-m,by omega⟩;have a1:(az (l.drop m)).length=q*3:=by rw[gV,lD,HN.o];congr 1;omega
    have a6:Hid (∀a:Addr,(a=⟨g,m*3,N⟩\/q=0)->∀t u,(az (l.drop m))[t]?=J u->w2.cell? (a.add t)=J u):=λa ha t u ht=>by
     rcases ha with rfl|h0
     .have h3:az (l.drop m)=(az l).drop (m*3):=(iO 3 _ (λ_=>Q) l m).s;rw[h3,List.getElem?_drop]at ht;have:=ag y.o.1 (ag HB.o (HH.o.cells (g:=g) Q _ u ht));rw[Addr.add_lit]at this ⊢;simpa using this
     .have:az (l.drop m)=[]:=List.eq_nil_of_length_eq_zero (by omega);rw[this]at ht;simp at ht
    have T:=y.o.1.size;have a4:Hid (∀ (v3:Wx) (w3:Wj),w3.ownsRow wr.heap.size 67 3 v3 (m+1+q) ((az (l.take m)++[I K f,U d,I K b])++az (l.drop m))->w2.grownBy w3 (Value.slice ai (m+1) X).ownBlock->w3.ownsRow B 67 3 v3 (bE l ⟨f,d,b⟩).length (az (bE l ⟨f,d,b⟩))/\Below w.heap.size w w3):=λv3 w3 p ab=>by
     have b5:Below wr.heap.size wr w3:=y.o.1.grown ab T (λk e=>(y.o.2.lt k e).1);refine⟨?_,HB.o.t (b5.m HB.o.size)⟩;rw[HP.o];have e1:(l.take m++⟨f,d,b⟩::l.drop m).length=m+1+q:=by rw[lP,lC,tL,lD,HN.o];omega
     have e2:az (l.take m++⟨f,d,b⟩::l.drop m)=(az (l.take m)++[I K f,U d,I K b])++az (l.drop m):=by simp[az]
     rw[e1,e2];exact⟨p.1,p.2.imp id λ⟨g,ac,P,e,hb,r⟩=>⟨g,ac,P,e,lT hB (lT HB.o.size hb),r⟩⟩
    have h1000:m+q<=1000:=by omega
    have hqc:m+q<=c:=by omega
    rw[hq]at *;clear hq;by_cases b3:c=m
    .have b1:q=0:=by omega
     subst b1;subst b3;go_wp2_with (at_builtin;go_loud (refine xb _ Q _ _ 51 Q wr.heap.size 67 i0 _ 3 32 (Yq.u underlying51) V aa ad R Q (by decide) _ _ _ Q y.o.2 ⟨g,0,N⟩ 0 0 (az (l.drop c)) Q a1 (a6.o _ (Or.inr Q)) (kj _) (by simp only[xc];omega) (by omega) T ?_);intro v3 w3 p ab _;obtain⟨bo,bk,rfl,-⟩:=ao p)
     go_ret;exact⟨_,Q,a4.o _ _ p ab⟩
    .go_wp2_with (at_builtin;go_loud (refine xb _ Q _ _ 51 Q wr.heap.size 67 i0 _ 3 32 (Yq.u underlying51) V aa ad R Q (by decide) _ _ _ Q y.o.2 ⟨g,m*3,N⟩ q (c-m) (az (l.drop m)) Q a1 (a6.o _ (Or.inl Q)) (kj _) (by simp only[xc];omega) (by omega) T ?_);intro v3 w3 p ab _;obtain⟨bo,bk,rfl,-⟩:=ao p)
     go_ret;exact⟨_,Q,a4.o _ _ p ab⟩
def MZ(w:Wj)(v:Wx)(NA:S ItD):Prop:=∃a c,v=M a NA.length c/\(NA≠[]->∃g o,a=J ⟨g,o,N⟩/\∀j,j<NA.length*3->w.cell? ⟨g,o+j,N⟩=(az NA)[j]?)
theorem j6.o{w}{v}(h:j6 w v NA):MZ w v NA:=by
 obtain⟨a,c,rfl,e⟩:=h.form;refine⟨a,c,Q,λb=>?_⟩;obtain⟨g,rfl,d⟩:=e b;exact⟨g,0,Q,λj f=>by rw[zA];exact d j f⟩
theorem nU D y NA w(A:j6 w D NA)(P:MZ w y NA)(R:NA.length<=100000):
  Calls Yq.prog 64 #[D,y] w λe L=>e=Rc (C Y)/\Below w.heap.size w L:=by
 obtain⟨a,c,rfl,z⟩:=A.form;obtain⟨b,d,rfl,x⟩:=P;have HX:=aq z;have HY:=aq x;clear z x A;obtain⟨n,q⟩:∃n,NA.length=n:=⟨_,Q⟩;have HN:=aq q;rw[q]at R ⊢;clear q;go_enter (Yq.nq func64),ntmps64;go_wp2_with fail
 go_loopw [5] (λs5 wr=>∃i:H,i<=n/\s5=I K i/\Below w.heap.size w wr) (λs5 _=>n-(intOf s5).toNat)
 case atStart=>exact⟨0,Q8,Q,Q9⟩
 case round=>
  obtain⟨i,hin,rfl,f⟩:=hrel;by_cases p:i<n
  .have j:i<NA.length:=by rw[HN.o];exact p
   have k:NA≠[]:=by intro e;rw[e]at j;simp at j
   obtain⟨g,rfl,l⟩:=HX.o k;obtain⟨g',of,rfl,h⟩:=HY.o k;have⟨m,r,u⟩:=nQ NA i j;have V:=ag f ((l (i*3) (by omega)).t m);have X:=ag f ((l (i*3+1) (by omega)).t r);have F:=ag f ((l (i*3+2) (by omega)).t u);have G:=ag f ((h (i*3) (by omega)).t m);have B:=ag f ((h (i*3+1) (by omega)).t r);have v:=ag f ((h (i*3+2) (by omega)).t u);rw[<-Nat.add_assoc]at B v;generalize NA[i]=T at *;obtain⟨kind,text,NP⟩:=T;simp only at V X F G B v;have HB:=aq f;clear f l h m r u HX HY;go_wp2
   go_region
   all_goals
    go_wp2;exact⟨⟨i+1,by omega,by go_num,HB.o.drew⟩,by simp[intOf];omega⟩
  have s:i=n:=by omega
  subst s;have HB:Hid (Below w.heap.size w wr):=f;clear f;go_wp2;go_ret;exact⟨Q,HB.o⟩
theorem nV l x:(bE l x).length<=l.length+1:=by
 unfold bE
 grind
theorem uE:∀ (m l:S ItD),(m.foldl bE l).length<=l.length+m.length
 | [],l=>by simp
 |x::m,l=>by
  have h1:=uE m (bE l x);have h2:=nV l x;rw[lk,lC];omega
theorem xJ(b:vx)k h(a:h≠[]):(bM b k h).length<=h.length:=by
 have:=dT.2 a;unfold bM
 grind
theorem CX q l a(b:a.2≠[]):(fo q l a).length<=l.length+a.2.length:=by
 have h0:=dT.2 b;unfold fo;split
 split
 rename_i c _;have:=nV l ⟨2,⟨c.toArray⟩,0⟩;omega;have h1:=uE (bM q.vs a.1 a.2).reverse l;have h2:=xJ q.vs a.1 a.2 b
 grind
 omega
theorem Bb q:∀ (R:KVs)(l:S ItD),(∀a∈R,a.2≠[])->(R.foldl (fo q) l).length<=l.length+fU R
 | [],l,_=>by simp[fU]
 |a::R,l,h=>by
  have h1:=Bb q R (fo q l a) (λx b=>h x (by simp[b]));have h2:=CX q l a (h a (by simp));have e:fU (a::R)=a.2.length+fU R:=by simp[fU]
  rw[lk,e];omega
def oU(e:bz):S sq×S Ver:=(e.key.data.toList,e.h)
def dm(q:Qy)(R:S bz)(i:H):S ItD:=gi q ((R.take i).map oU)
theorem CY(q:Qy)(R:S bz)(i:H)(h:i<R.length):dm q R (i+1)=fo q (dm q R i) (oU R[i]):=by
 unfold dm gi;rw[tS h,nF,gL];rfl
theorem Jd R:fU (R.map oU)=totR R:=by
 unfold fU totR;rw[List.map_map];rfl
theorem FU q R i(h:∀e∈R,e.h≠[]):(dm q R i).length<=totR R:=by
 have b:=Bb q ((R.take i).map oU) [] (λkh a=>by
  obtain⟨e,c,rfl⟩:=gI.1 a;exact h e (List.mem_of_mem_take c))
 rw[Jd]at b;have h2:=nS R i;unfold dm gi
 grind
theorem FV{i}{R}{u:sT}(c:Sim i R u)q(r:∀k,(i.f k).Pairwise λa b=>a.num<b.num)(h:∀k,i.f k≠[]->k.length<=40):gi q (R.map oU)=cq q (bV i.f q.p.data.toList):=by
 refine zB q i.f (R.map oU) r h (λkh m=>?_) λk o=>?_
 obtain⟨e,d,rfl⟩:=gI.1 m;have n:=c.here e d;exact⟨n.s,λj=>c.full e d (n.s.t j)⟩;refine Classical.byContradiction λl=>o (c.gone k λe d j=>l (gI.2 ⟨e,d,?_⟩))
 unfold oU;rw[j,<-c.here e d,j]
theorem zG(h:q.p.data.toList.isPrefixOf a.1=Z\/jo q a.1 a.2=Z):fo q l a=l:=by
 unfold fo;rw[tn];rcases h with h|h<;>simp[h]
theorem uF{c}(b:q.p.data.toList.isPrefixOf a.1=Y)(d:jo q a.1 a.2=Y)(e:bc q a.1=J c):fo q l a=bE l ⟨2,⟨c.toArray⟩,0⟩:=by
 unfold fo;rw[tb (by simp[b,d]),e]
theorem CZ{kh}(a:q.p.data.toList.isPrefixOf kh.1=Y)(b:jo q kh.1 kh.2=Y)(c:bc q kh.1=N):fo q l kh=(bM q.vs kh.1 kh.2).reverse.foldl bE l:=by
 unfold fo;rw[tb (by simp[a,b]),c]
def em(a:vx)(k:S sq)(h:S Ver)(l:S ItD)(j:H):S ItD:=if a then((h.take j).map (fR k)).foldl bE l else if j<h.length then l else bE l ⟨1,⟨k.toArray⟩,(qu h).num⟩
theorem C0(b:vx)k h(a:h≠[])l:em b k h l 0=l:=by
 unfold em;split
 rfl;rw[tb (dT.2 a)]
theorem FW(a:vx)k h l:em a k h l h.length=(bM a k h).reverse.foldl bE l:=by
 unfold em bM;split
 rw[lj,<-List.map_reverse,List.reverse_reverse];rw[tn (Nat.lt_irrefl _)];rfl
theorem Je(k:S sq)(h:S Ver)(l:S ItD)(j:H)(a:j<h.length):em Y k h l (j+1)=bE (em Y k h l j) (fR k h[j]):=by
 unfold em;simp only[wz];rw[tS a,nF,gL];rfl
theorem FX k h l j(a:j+1<h.length):em Z k h l (j+1)=em Z k h l j:=by
 unfold em;simp only[Bool.false_eq_true,uc];rw[tb a,tb (by omega)]
theorem C3(k:S sq)(h:S Ver)(l:S ItD)(j:H)(hj:j+1=h.length):em Z k h l (j+1)=bE (em Z k h l j) ⟨1,⟨k.toArray⟩,(h[j]'(by omega)).num⟩:=by
 have e:(qu h)=h[j]'(by omega):=by
  unfold qu;rw[List.getLast?_eq_getElem?,show h.length-1=j by omega,eL (by omega)];rfl
 unfold em;simp only[Bool.false_eq_true,uc];rw[tn (by omega),tb (by omega),e]
theorem FY(b:vx)k h(a:h≠[])l j:(em b k h l j).length<=l.length+h.length:=by
 have h0:=dT.2 a;unfold em;split
 have:=uE ((h.take j).map (fR k)) l;rw[lM,tL]at this;omega;split
 omega;have:=nV l ⟨1,⟨k.toArray⟩,(qu h).num⟩;omega
theorem Mr{a b:pt}(_:a.size<=b.size):((b.extract 0 a.size).toList==a.toList)=a.data.toList.isPrefixOf b.data.toList:=by
 rw[Bool.eq_iff_iff,beq_iff_eq,ey,eV,n8,n8,Lib.extract_data,List.drop_zero,Nat.sub_zero];have e:a.data.toList.length=a.size:=by simp
 grind
theorem Ms{a b:pt}(h:¬a.size<=b.size):a.data.toList.isPrefixOf b.data.toList=false:=by
 cases e:a.data.toList.isPrefixOf b.data.toList with
 |false=>rfl
 |true=>
  have:=(ey.1 e).length_le;simp at this
  grind
theorem FZ{k c}(h:bc q k=J c):(⟨c.toArray⟩:pt)≠⟨#[]⟩:=by
 intro e;have e2:=vf (λb:pt=>b.data.toList) e;unfold bc at h;split at h
 cases h;rename_i hd;have⟨j,a,e⟩:=Option.map_eq_some_iff.1 h;have h1:=j7 (λe=>hd (by have:=vf List.length e;simpa using this)) _ _ a
 simp_all
theorem Bc{w:Wj}{B g b:H}{a:S Ver}{T:TypeId}(h:w.ownsRow B T 3 (M (J ⟨g,0,N⟩) a.length b) a.length (aA a))(j:H)(d:j<a.length):w.cell? ⟨g,j*3,N⟩=J (I K a[j].num)/\w.cell? ⟨g,j*3+2,N⟩=J (C a[j].mark):=by
 have hx:∀i,i<3->w.cell? ⟨g,j*3+i,N⟩=[Rj K a[j].num,U a[j].body,C a[j].mark][i]?:=λi e=>by
  have c:=h.cellAt (j*3+i) (by omega);rw[aA,(bL 3 (λv:Ver=>[Rj K v.num,U v.body,C v.mark]) (λ_=>Q) a j i d e)]at c;exact c
 simp_all
theorem F0{w:Wj}{B g b:H}{a:S Ver}{T:TypeId}(h:w.ownsRow B T 3 (M (J ⟨g,0,N⟩) a.length b) a.length (aA a))(hne:0<a.length):w.cell? ⟨g,(a.length-1)*3+2,N⟩=J (C (qu a).mark):=by
 have c:=h.cellAt ((a.length-1)*3+2) (by omega);rw[aA,(bL 3 (λv:Ver=>[Rj K v.num,U v.body,C v.mark]) (λ_=>Q) a (a.length-1) 2 (by omega) (by omega))]at c;unfold qu
 grind
theorem C4 B k sl R(nx tm:sT)o(y:vx)(bd:(o.kind==6)=!y)(b9:(o.kind==7)=y)w(a:aD B w k sl R nx tm)(hn:totR R<=200)(ai:∀e∈R,e.h≠[])(hk:∀e∈R,e.key.size<=40)(hd:o.fe.size<=140737488351232):
  Calls Yq.prog 62 #[O (J ⟨k,0,N⟩),aL o] w λe w'=>∃v,e=Rc v/\w'.ownsRow w.heap.size 67 3 v (gi ⟨y,o.key,o.fe,o.past⟩ (R.map oU)).length (az (gi ⟨y,o.key,o.fe,o.past⟩ (R.map oU)))/\Below w.heap.size w w':=by
 obtain⟨va,vc,rfl,-⟩:=ao a.row;have c0:=a.cells.c0;have HH:=aq a;clear a;obtain⟨n,r,D,fe,f,nn,al⟩:=o;unfold aL;simp only at *;obtain⟨q,hq⟩:∃q:Qy,q=⟨y,r,fe,f⟩:=⟨_,Q⟩;have HQ:=aq hq;rw[<-hq];clear hq;go_enter (Yq.nq func62),ntmps62;go_wp2_with fail
 have HO:Hid (Below w.heap.size w (w.alloc (E #[I K n,U r,U D,U fe,U f,I K nn,I K al] 37))/\(w.alloc (E #[I K n,U r,U D,U fe,U f,I K nn,I K al] 37)).cell? ⟨w.heap.size,0,N⟩=J (I K n)/\(w.alloc (E #[I K n,U r,U D,U fe,U f,I K nn,I K al] 37)).cell? ⟨w.heap.size,1,N⟩=J (U r)/\(w.alloc (E #[I K n,U r,U D,U fe,U f,I K nn,I K al] 37)).cell? ⟨w.heap.size,3,N⟩=J (U fe)/\(w.alloc (E #[I K n,U r,U D,U fe,U f,I K nn,I K al] 37)).cell? ⟨w.heap.size,4,N⟩=J (U f)):=
  ⟨(bR _ w).alloc Q0 _,by rw[cA (w:=w) _ _ w.heap.size 0 Q];rfl,by rw[cA (w:=w) _ _ w.heap.size 1 Q];rfl,by rw[cA (w:=w) _ _ w.heap.size 3 Q];rfl,by rw[cA (w:=w) _ _ w.heap.size 4 Q];rfl⟩
 generalize w.alloc (E #[I K n,U r,U D,U fe,U f,I K nn,I K al] 37)=Wz at *;have dj:Hid (∀i,(dm q R i).length<=200):=λi=>lT (FU q R i ai) hn
 have hR200:R.length<=200:=lT (ie R ai) hn;have b0:=eM ai hk hn;clear ai hk hn
 go_loopw [5,6] (λs5 s6 wr=>∃i:H,i<=R.length/\s6=I K i/\wr.ownsRow w.heap.size 67 3 s5 (dm q R i).length (az (dm q R i))/\Below Wz.heap.size Wz wr) (λ_ s6 _=>R.length-(intOf s6).toNat)
 case atStart=>exact⟨0,Q8,Q,yz _ _ _ _,Q9⟩
 case round=>
  obtain⟨i,hin,rfl,z,hb⟩:=hrel;obtain⟨so,sc,rfl,-⟩:=ao z;have ac:=aq hb;have HB:=aq (HO.o.1.t (hb.m HO.o.1.size));have o0:=ag hb HO.o.2.1;have o1:=ag hb HO.o.2.2.1;have o3:=ag hb HO.o.2.2.2.1;have o4:=ag hb HO.o.2.2.2.2;have c6:=ag HB.o c0;have b4:=aq z;clear z hb;by_cases F:i<R.length
  .obtain ⟨ge,ecap,he,-,hgl,e0,e1⟩:=HH.o.Pc i F;cases he;replace e0:=ag HB.o e0;replace e1:=ag HB.o e1;have hii:(i:sT)<R.length:=by omega
   have a6:=CY q R i F;have c9:=b0.o.2.1 _ (eW F);have hs200:R[i].h.length<=200:=lT (sP R i F) b0.o.2.2;have hv:=HH.o.NL _ (eW F);have b3:=b0.o.1 _ (eW F);obtain⟨gv,u,bq,-⟩:=bm hv (dT.2 b3);rw[bq]at e1;have HV:Hid (wr.ownsRow B 137 3 (M (J ⟨gv,0,N⟩) R[i].h.length u) R[i].h.length (aA R[i].h)):=by
    have:=hv.kept (aQ HB.o N) (eh _);rw[bq]at this;exact this
   have be:=aq a6;have bt:=aq b3;clear hv bq a6 b3;unfold oU at be;generalize R[i].h=d at *;generalize R[i].key=b at *;have ai:=dT.2 bt.o
   go_upto_region 7 with fail
   have ap:Hid (Below wr.heap.size wr (wr.alloc (E #[U b,M (J ⟨gv,0,N⟩) d.length u] 147))/\(wr.alloc (E #[U b,M (J ⟨gv,0,N⟩) d.length u] 147)).cell? ⟨wr.heap.size,0,N⟩=J (U b)/\(wr.alloc (E #[U b,M (J ⟨gv,0,N⟩) d.length u] 147)).cell? ⟨wr.heap.size,1,N⟩=J (M (J ⟨gv,0,N⟩) d.length u)):=
    ⟨(bR _ wr).alloc Q0 _,by rw[cA (w:=wr) _ _ wr.heap.size 0 Q];rfl,by rw[cA (w:=wr) _ _ wr.heap.size 1 Q];rfl⟩
   generalize wr.alloc (E #[U b,M (J ⟨gv,0,N⟩) d.length u] 147)=Wq at *;have q0:=ap.o.2.1;have q1:=ap.o.2.2;have p1:=ag ap.o.1 o1;clear e0 e1 o0 o1 o3 o4 c6
   go_cut [9] (λs9 wx=>s9=C (r.data.toList.isPrefixOf b.data.toList)/\Below wr.heap.size wr wx/\wx.cell? ⟨wr.heap.size,0,N⟩=J (U b)/\wx.cell? ⟨wr.heap.size,1,N⟩=J (M (J ⟨gv,0,N⟩) d.length u))
   case first=>
    by_cases cr:r.size<=b.size
    .have ck:(r.size:sT)<=b.size:=by omega
     have b6:=aq (Mr cr)
     go_quiet (fail)
     go_wp2_with fail
     go_meet
     case rel=>exact⟨vf Rk b6.o,xt ap.o.1 _,q0,q1⟩
    .have ck:decide ((r.size:sT)<=b.size)=false:=by simp;omega
     have b6:Hid (Z=r.data.toList.isPrefixOf b.data.toList):=(Ms cr).s
     go_quiet (fail)
     go_wp2_with fail
     go_meet
     case rel=>exact⟨vf Rk b6.o,xt ap.o.1 _,q0,q1⟩
   case rest=>
   obtain⟨rfl,b1,q0,q1⟩:=hcut;have a4:=aq b1;have o0:=ag b1 (ag ac.o HO.o.2.1);have o1:=ag b1 (ag ac.o HO.o.2.2.1);have o3:=ag b1 (ag ac.o HO.o.2.2.2.1);have o4:=ag b1 (ag ac.o HO.o.2.2.2.2);obtain⟨lv,bn⟩:∃lv,lv=qu d:=⟨_,Q⟩;have l2:wc.cell? ⟨gv,((d.length:sT)-1).toNat*3+2,N⟩=J (C lv.mark):=by
    rw[bn,show((d.length:sT)-1).toNat=d.length-1 by omega];exact ag b1 (F0 HV.o ai)
   have c7:wc.cell? ⟨gv,(d.length-1)*3+2,N⟩=J (C lv.mark):=by
    rw[<-l2,show((d.length:sT)-1).toNat=d.length-1 by omega]
   have d1:=aq bn;have HW:Hid (jo q b.data.toList d=(jY f b&&(y || !lv.mark))):=by
    show jo q _ d=_;rw[HQ.o,bn];rfl
   have bi:Hid (∃pb,r.data.toList.isPrefixOf b.data.toList=pb):=⟨_,Q⟩;clear b1 bn p1;generalize b8:r.data.toList.isPrefixOf b.data.toList=pb at *;have bi:=aq b8;clear b8
   go_upto_region 8 with fail
   go_cut [72] (λs72 wx=>s72=C (!(pb&&jo q b.data.toList d))/\wx=wc)
   case first=>
    cases pb
    .go_wp2_with fail
     go_meet
     case rel=>exact⟨Q,Q⟩
    .have a7:Hid (∀bl,bl=!(jY f b&&(y || !lv.mark))->Rk bl=C (!(Y&&jo q b.data.toList d))):=λbl h=>by rw[h,HW.o,Bool.true_and]
     by_cases cm:xv b.toList f.toList=Y
     .have ar:Hid (jY f b=Z):=by show jY f b=Z;simp[jY,cm]
      go_wp2_with fail
      go_meet
      case rel=>exact⟨a7.o _ (by rw[ar.o];rfl),Q⟩
     .have cl:xv b.toList f.toList=false:=by simpa using cm
      by_cases bw:b.toList=f.toList
      .have ar:Hid (jY f b=Z):=by show jY f b=Z;simp[jY,bw]
       go_wp2_with fail
       go_meet
       case rel=>exact⟨a7.o _ (by rw[ar.o];rfl),Q⟩
      .have ch:Hid ((b.toList==f.toList)=Z):=by show _=_;simpa using bw
       have ar:Hid (jY f b=Y):=by show jY f b=Y;simp[jY,cl,bw]
       cases y
       .have a5:(n==6)=true:=bd;go_wp2_with fail
        go_meet
        case rel=>exact⟨a7.o _ (by rw[ar.o,ch.o];simp),Q⟩
       .have a5:(n==6)=false:=bd;go_wp2_with fail
        go_meet
        case rel=>exact⟨a7.o _ (by rw[ar.o,ch.o];rfl),Q⟩
   case rest=>
   obtain⟨rfl,rfl⟩:=hcut;have G:=aq (ac.o.t (a4.o.m ac.o.size));have a2:=aq (b4.o.kept (aQ a4.o N) (eh _));have cj:w.heap.size<=wc.heap.size:=lT HB.o.size a4.o.size;have a1:=aq (dj.o i);clear l2 c7 HW ap;cases T:(pb&&jo q b.data.toList d)with
   |false=>
    have dd:Hid (dm q R (i+1)=dm q R i):=by
     show dm q R (i+1)=dm q R i;rw[be.o];refine zG ?_;rw[Bool.and_eq_false_iff]at T;rcases T with h|h
     .refine Rf ?_;rw[HQ.o];exact bi.o.t h
     .exact Rg h
    clear T;go_wp2_with fail
    refine⟨⟨i+1,F,by go_num,?_,G.o⟩,by simp[intOf];omega⟩;rw[dd.o];exact a2.o
   |true=>
    rw[bT]at T;have a8:Hid (q.p.data.toList.isPrefixOf b.data.toList=Y/\jo q b.data.toList d=Y):=⟨by rw[HQ.o];exact bi.o.t T.1,T.2⟩;have hks:r.size<=40:=by
     have h1:=(ey.1 (bi.o.t T.1)).length_le;simp at h1;exact lT h1 c9
    have HP:=FT b r fe wc (by omega) (by omega) hd;have bb:Hid (cpart b r fe=match bc q b.data.toList with|none=>⟨#[]⟩|some c=>⟨c.toArray⟩):=by
     show cpart b r fe=_;unfold cpart bc;rw[HQ.o]
    clear T;cases aa:bc q b.data.toList with
    |some c=>
     have c4:=FZ aa;have bv:Hid (dm q R (i+1)=bE (dm q R i) ⟨2,⟨c.toArray⟩,0⟩):=by
      show dm q R (i+1)=_;rw[be.o];exact uF a8.o.1 a8.o.2 aa
     have av:cpart b r fe=⟨c.toArray⟩:=by rw[bb.o,aa]
     rw[av]at HP;have hz:=iZ c4;have ad:=Ba w.heap.size _ (dm q R i) ⟨2,⟨c.toArray⟩,0⟩ wc a2.o cj (by have:=a1.o;omega);unfold itVal at ad;clear av aa bb;generalize(⟨c.toArray⟩:pt)=cb at *;go_wp2_with fail
     refine HP.m ?_;rintro e w1 ⟨rfl,rfl⟩;go_wp2_with fail
     refine ad.m ?_;rintro e w1 ⟨v',rfl,ct,b1⟩;have ca:=bJ ct (G.o.t (b1.m G.o.size));clear ct b1 ad HP;go_wp2_with fail
     refine⟨⟨i+1,F,by go_num,?_,ca.o.2⟩,by simp[intOf];omega⟩;rw[bv.o];exact ca.o.1
    |none=>
     have av:cpart b r fe=⟨#[]⟩:=by rw[bb.o,aa]
     rw[av]at HP;have bv:Hid (dm q R (i+1)=em y b.data.toList d (dm q R i) d.length):=by
      show dm q R (i+1)=_;rw[be.o,FW];have:=CZ (l:=dm q R i) (kh:=(b.data.toList,d)) a8.o.1 a8.o.2 aa;rw[this,HQ.o]
     clear av aa bb;go_wp2_with fail
     refine HP.m ?_;rintro e w1 ⟨rfl,bp⟩;replace bp:=bp.s;subst bp;clear HP;have dy:Hid (wc.ownsRow B 137 3 (M (J ⟨gv,0,N⟩) d.length u) d.length (aA d)):=HV.o.kept (aQ a4.o N) (eh _);clear HV a4 ac b4;generalize wr.heap.size=xe at *;have aj:Hid (wc.cell? ⟨xe,0,N⟩=J (U b)/\wc.cell? ⟨xe,1,N⟩=J (M (J ⟨gv,0,N⟩) d.length u)/\wc.cell? ⟨w.heap.size,0,N⟩=J (I K n)/\wc.ownsRow B 137 3 (M (J ⟨gv,0,N⟩) d.length u) d.length (aA d)):=⟨q0,q1,o0,dy.o⟩;have dt:Hid (em y b.data.toList d (dm q R i) 0=dm q R i):=C0 y _ d bt.o _;have c8:Hid (∀j,(em y b.data.toList d (dm q R i) j).length<=400):=λj=>by
      have h1:=FY y b.data.toList d bt.o (dm q R i) j;have h2:=a1.o;show(em y b.data.toList d (dm q R i) j).length<=400;omega
     go_wp2_with fail
     go_loopw [5,11] (λs5 s11 wx=>∃j:H,j<=d.length/\s11=I K j/\wx.ownsRow w.heap.size 67 3 s5 (em y b.data.toList d (dm q R i) j).length (az (em y b.data.toList d (dm q R i) j))/\Below wc.heap.size wc wx) (λ_ s11 _=>d.length-(intOf s11).toNat)
     case atStart=>exact⟨0,Q8,Q,by rw[dt.o];exact a2.o,Q9⟩
     case round=>
      obtain⟨j,hj,rfl,z,X⟩:=hrel;obtain⟨bo,bs,rfl,-⟩:=ao z;have d0:Hid (Below wc.heap.size wc wr):=X;by_cases ab:j<d.length
      .have hjj:(j:sT)<d.length:=by omega
       have a3:Hid (wr.cell? ⟨xe,1,N⟩=J (M (J ⟨gv,0,N⟩) d.length u)/\wr.cell? ⟨w.heap.size,0,N⟩=J (I K n)/\wr.cell? ⟨gv,j*3+2,N⟩=J (C d[j].mark)):=⟨ag X aj.o.2.1,ag X aj.o.2.2.1,ag X (Bc aj.o.2.2.2 j ab).2⟩;have r0:=ag X aj.o.1;have r1:=ag X aj.o.2.1;have v0:=ag X (Bc aj.o.2.2.2 j ab).1;have b5:Hid (y=Y->em y b.data.toList d (dm q R i) (j+1)=bE (em y b.data.toList d (dm q R i) j) ⟨if d[j].mark then 4 else 3,b,d[j].num⟩):=λh=>by subst h;exact Je _ d _ j ab
       have dc:Hid (y=Z->j+1<d.length->em y b.data.toList d (dm q R i) (j+1)=em y b.data.toList d (dm q R i) j):=λh h2=>by subst h;exact FX _ d _ j h2
       have cv:Hid (y=Z->j+1=d.length->em y b.data.toList d (dm q R i) (j+1)=bE (em y b.data.toList d (dm q R i) j) ⟨1,b,d[j].num⟩):=λh h2=>by subst h;exact C3 _ d _ j h2
       have hln:=c8.o j;have df:w.heap.size<=wr.heap.size:=lT cj X.size;generalize cd:em y b.data.toList d (dm q R i) (j+1)=a0 at *;have bk:Hid (em y b.data.toList d (dm q R i) (j+1)=a0):=cd;clear cd;generalize em y b.data.toList d (dm q R i) j=V at *;have ad:Hid (∀x W',Below wr.heap.size wr W'->Calls Yq.prog 88 #[M bo V.length bs,itVal x] W' λe w'=>∃v',e=Rc v'/\w'.ownsRow w.heap.size 67 3 v' (bE V x).length (az (bE V x))/\Below wc.heap.size wc w'):=λx W' af=>(Ba w.heap.size _ V x W' (z.kept (aQ af N) (eh _)) (lT df af.size) (by omega)).m λe w' ⟨v',h1,h2,h3⟩=>⟨v',h1,h2,(X.t (af.m X.size)).t (h3.m (lT X.size af.size))⟩
       have b7:Hid (∀W',Below wr.heap.size wr W'->W'.ownsRow w.heap.size 67 3 (M bo V.length bs) V.length (az V)/\Below wc.heap.size wc W'):=λW' af=>⟨z.kept (aQ af N) (eh _),X.t (af.m X.size)⟩
       clear z X;generalize d[j]=vj at *;obtain⟨vn,vb,vm⟩:=vj;simp only at v0 b5 cv a3
       go_upto_region 15 with fail
       go_cut [12] (λs12 wy=>s12=O (J ⟨wr.heap.size,0,N⟩)/\Below wr.heap.size wr wy/\bB wy wr.heap.size (I K 3) (U b) (I K vn))
       case first=>
        have a9:=iR wr (I K 3) (U b) (I K vn) 67;have ha:Below wr.heap.size wr (wr.alloc (E #[I K 0,U ⟨#[]⟩,I K 0] 67)):=(Q9).alloc Q0 _;have r0':=ag ha r0;have r1':=ag ha r1;have v0':=ag ha v0
        go_region
        all_goals
         go_wp2_with fail
         go_meet
         case rel=>exact⟨Q,((Q9).alloc Q0 _).drew,⟨a9.c0,a9.c1,a9.c2,a9.fz⟩⟩
       case rest=>
       obtain⟨rfl,bY,cY⟩:=hcut;obtain⟨y0,y1,y2,yf⟩:=cY;have yf0:=yf 0;have r1:=ag bY a3.o.1;have k0:=ag bY a3.o.2.1;have v2:=ag bY a3.o.2.2;have A:Hid (Below wr.heap.size wr wc/\(∀v,Below wr.heap.size wr (wc.setCell ⟨wr.heap.size,0,N⟩ v))/\∀v v',Below wr.heap.size wr ((wc.setCell ⟨wr.heap.size,0,N⟩ v).setCell ⟨wr.heap.size,0,N⟩ v')):=⟨bY,λv=>bY.setCell Q0 v,λv v'=>(bY.setCell Q0 v).setCell Q0 v'⟩;have hxk:w.heap.size≠wr.heap.size:=by
        have:=bC wr _ a3.o.2.1;simp only at this;omega
       clear bY yf r0 v0;cases y
       .have a5:(n==6)=true:=bd;have cc:(n==7)=false:=b9;by_cases hl:j+1=d.length
        .have ds:((j:sT)==(d.length:sT)-1)=true:=by simp;omega
         cases vm <;>
         .go_wp2_with fail
          refine(ad.o ⟨1,b,vn⟩ _ (by first|exact A.o.1|exact A.o.2.1 _|exact A.o.2.2 _ _)).m ?_;rintro e w2 ⟨v',rfl,P,b2⟩;have L:Hid (w2.ownsRow w.heap.size 67 3 v' (bE V ⟨1,b,vn⟩).length (az (bE V ⟨1,b,vn⟩))/\a0=bE V ⟨1,b,vn⟩):=⟨P,cv.o (by first|trivial|rfl) hl⟩;clear P;go_wp2_with fail
          refine⟨⟨j+1,ab,by go_num,?_,b2⟩,by simp[intOf];omega⟩;rw[bk.o,L.o.2];exact L.o.1
        .have ds:((j:sT)==(d.length:sT)-1)=false:=by simp;omega
         have cu:Hid (a0=V):=dc.o (by first|trivial|rfl) (by omega);cases vm <;>
         .go_wp2_with fail
          refine⟨⟨j+1,ab,by go_num,?_,(b7.o _ (by first|exact A.o.1|exact A.o.2.1 _|exact A.o.2.2 _ _)).2⟩,by simp[intOf];omega⟩;rw[bk.o,cu.o];exact(b7.o _ (by first|exact A.o.1|exact A.o.2.1 _|exact A.o.2.2 _ _)).1
       .have a5:(n==6)=false:=bd;have cc:(n==7)=true:=b9;cases vm
        .go_wp2_with fail
         refine(ad.o ⟨3,b,vn⟩ _ (by first|exact A.o.1|exact A.o.2.1 _|exact A.o.2.2 _ _)).m ?_;rintro e w2 ⟨v',rfl,P,b2⟩;have L:Hid (w2.ownsRow w.heap.size 67 3 v' (bE V ⟨3,b,vn⟩).length (az (bE V ⟨3,b,vn⟩))/\a0=bE V ⟨3,b,vn⟩):=⟨P,b5.o (by first|trivial|rfl)⟩;clear P;go_wp2_with fail
         refine⟨⟨j+1,ab,by go_num,?_,b2⟩,by simp[intOf];omega⟩;rw[bk.o,L.o.2];exact L.o.1
        .go_wp2_with fail
         refine(ad.o ⟨4,b,vn⟩ _ (by first|exact A.o.1|exact A.o.2.1 _|exact A.o.2.2 _ _)).m ?_;rintro e w2 ⟨v',rfl,P,b2⟩;have L:Hid (w2.ownsRow w.heap.size 67 3 v' (bE V ⟨4,b,vn⟩).length (az (bE V ⟨4,b,vn⟩))/\a0=bE V ⟨4,b,vn⟩):=⟨P,b5.o (by first|trivial|rfl)⟩;clear P;go_wp2_with fail
         refine⟨⟨j+1,ab,by go_num,?_,b2⟩,by simp[intOf];omega⟩;rw[bk.o,L.o.2];exact L.o.1
      .have da:j=d.length:=by omega
       subst da;have cp:Hid (wr.ownsRow w.heap.size 67 3 (M bo (em y b.data.toList d (dm q R i) d.length).length bs) (em y b.data.toList d (dm q R i) d.length).length (az (em y b.data.toList d (dm q R i) d.length))/\Below Wz.heap.size Wz wr):=⟨z,G.o.t (X.m G.o.size)⟩;clear z X;go_wp2_with fail
       refine⟨⟨i+1,F,by go_num,?_,cp.o.2⟩,by simp[intOf];omega⟩;rw[bv.o];exact cp.o.1
  .have c5:i=R.length:=by omega
   subst c5;have c3:Hid (dm q R R.length=gi q (R.map oU)):=by
    show dm q R R.length=_;unfold dm;rw[lj]
   go_wp2_with fail
   go_ret;refine⟨_,Q,?_,HB.o⟩;rw[<-c3.o];exact b4.o
end
