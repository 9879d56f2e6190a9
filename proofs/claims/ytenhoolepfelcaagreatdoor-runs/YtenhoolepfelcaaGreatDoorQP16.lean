/- A part. -/
import Derived.Test.YtenhoolepfelcaaGreatDoorQP11
set_option maxHeartbeats 4000000
set_option maxRecDepth 100000
open List renaming length_pos_iff->dT,isPrefixOf_iff_prefix->ey,prefix_iff_eq_take->eV,mem_map->eW,foldl_append->gI,any_eq_true->gL,foldl_cons->g6,map_append->jp
open Go.ByteArray renaming toList_eq->kr
open Go renaming wpList_append_own->lj,maxLen->lk
open _root_ renaming UInt8->nF,ByteArray->n8,if_pos->pt,if_neg->sq,if_false->sT,if_true->ta,Bool->tb
open Go renaming World->Wj,Value->Wx
namespace Go.Proofs.Qw
open _root_ renaming rfl->Q
open _root_ renaming Nat->H,List->S
open Option renaming none->N,some->J
open Bool renaming true->Y,false->Z
open Value renaming int->I,string->U,slice->M,bool->C
open IntKind renaming i64->K
open Obj renaming cells->E
open Ending renaming returned->Nm
open Or renaming inl->Qc,inr->Qd
variable {a kh:S nF×S Ver}{Mt l:S ItD}
open Tryz
section
open Go.RowKit
theorem Id(a b:n8):Op.bytesLess a.toList b.toList=decide (a.data.toList<b.data.toList):=by rw[Proofs.bytesLess_eq,kr,kr]
theorem EV a b w:Calls Yq.prog 106 #[itVal a,itVal b] w λe p=>e=Nm (C (ov a b))/\Below w.heap.size w p:=by
 obtain⟨k,f,n⟩:=a;obtain⟨i,j,m⟩:=b;have HB:Hid (∀c d,Below w.heap.size w ((w.alloc c).alloc d)):=λc d=>((bR _ _).alloc (lR _) _).alloc (by simp) _
 unfold itVal;by_cases l:f=j
 .subst l;have q:=wH f;have h:ov ⟨k,f,n⟩ ⟨i,f,m⟩=if(k==2)=(i==2)then decide (m<n)else(i==2):=by simp only[ov,ta];rfl
  rw[h];clear h;cases h1:(k==2)<;>cases h2:(i==2) <;>
  .simp only[reduceCtorEq,ta,sT];go_enter (Yq.nq func106),ntmps106;go_wp2_with fail
   go_ret;exact⟨Q,HB.o _ _⟩
 .have q:=wI l;have h:ov ⟨k,f,n⟩ ⟨i,j,m⟩=Op.bytesLess f.toList j.toList:=by rw[Id];simp only[ov,l,sT];rfl
  rw[h];clear h;generalize h:Op.bytesLess f.toList j.toList=z;clear l;go_enter (Yq.nq func106),ntmps106;go_wp2_with fail
  go_ret;exact⟨Q,HB.o _ _⟩
theorem Ie{d s}(a:d≠[])(h:s.length<d.length):dK d s=none:=by
 cases b:dK d s with
 |none=>rfl
 |some i=>have:=jJ a s i b;omega
def cpart(k p d:n8):n8:=match aV ⟨Z,p,d,⟨#[]⟩⟩ k.data.toList with
 |none=>⟨#[]⟩
 |some c=>⟨c.toArray⟩
def L1(s d:n8):Option H->n8
 |none=>⟨#[]⟩
 |some j=>s.extract 0 (j+d.size)
theorem EW(s p d:n8)w(hs:s.size<=1000)(hp:p.size<=1000)(hd:d.size<=140737488351232):Calls Yq.prog 83 #[U s,U p,U d] w λe D=>e=Nm (U (cpart s p d))/\D=w:=by
 have hps:p.data.toList.length=p.size:=by simp
 have t:d.data.toList.length=d.size:=by simp
 have hss:s.data.toList.length=s.size:=by simp
 by_cases y:d=⟨#[]⟩
 .subst y;have e:cpart s p ⟨#[]⟩=⟨#[]⟩:=rfl;rw[e];go_enter (Yq.nq func83),ntmps83;go_wp2;go_ret;exact⟨Q,Q⟩
 .have hz:=iD y;have l:=λe=>y (ByteArray.ext (Array.toList_inj.1 e))
  have HD:Hid (d.data.toList≠[]):=l;have v:0<d.size:=by have:=dT.2 l;omega
  have HI:Hid (∀x,(dK d.data.toList (s.data.toList.drop p.size)).map (p.size+·)=x->cpart s p d=L1 s d x):=λx F=>by
   subst F;unfold cpart aV;rw[sq (show¬d.size=0 by omega)];cases dK d.data.toList (s.data.toList.drop p.size)with
   |none=>rfl
   |some j=>
    refine ByteArray.ext (Array.toList_inj.1 ?_);show s.data.toList.take (p.size+j+d.size)=_;simp[L1]
  have HB:Hid (∃h,(dK d.data.toList (s.data.toList.drop p.size)).map (p.size+·)=h):=⟨_,Q⟩;generalize cpart s p d=n at *;have⟨h,b⟩:=HB.o;have HB:Hid (h=(dK d.data.toList (s.data.toList.drop p.size)).map (p.size+·)):=b.s;have HI:Hid (n=L1 s d h):=HI.o _ b;clear l y b v;go_enter (Yq.nq func83),ntmps83;go_wp2_with fail
  go_loopw [7] (λs7 wr=>∃i:H,i<=p.size+s.size/\s7=I K i/\wr=w/\h=(dK d.data.toList (s.data.toList.drop i)).map (i+·)) (λs7 _=>p.size+s.size-(intOf s7).toNat)
  case atStart=>exact⟨p.size,by omega,Q,Q,HB.o⟩
  case round=>
   obtain⟨i,hi,rfl,rfl,b⟩:=hrel;have k:Hid (h=(dK d.data.toList (s.data.toList.drop i)).map (i+·)):=b;clear b HB;have hdp:0<d.size:=by have:=dT.2 HD.o;omega
   by_cases hlt:i+d.size<=s.size
   .have u:(i:Int)+d.size<=s.size:=by omega
    have A:i<s.data.toList.length:=by omega
    have a:dK d.data.toList (s.data.toList.drop i)=if d.data.toList.isPrefixOf (s.data.toList.drop i)then J 0 else(dK d.data.toList (s.data.toList.drop (i+1))).map (·+1):=by
     rw[List.drop_eq_getElem_cons A,dK]
    have f:(s.extract i (i+d.size)).toList=(s.data.toList.drop i).take d.size:=by
     rw[kr,Lib.extract_data,Nat.add_sub_cancel_left]
    by_cases hE:d.data.toList.isPrefixOf (s.data.toList.drop i)=Y
    .have B:(s.extract i (i+d.size)).toList=d.toList:=by
      rw[f,kr,<-t];exact(eV.1 (ey.1 hE)).s
     have c:n=s.extract 0 (i+d.size):=by
      have r:=k.o;rw[a,pt hE]at r;have:=HI.o;rw[r]at this;exact this
     have m:Hid (n=s.extract 0 (i+d.size)):=c;clear a f hE c;go_wp2;go_ret;exact⟨by rw[m.o];rfl,Q⟩
    .have B:¬(s.extract i (i+d.size)).toList=d.toList:=λe=>hE (by
      rw[f,kr,<-t]at e;exact ey.2 (eV.2 e.s))
     have he2:((s.extract i (i+d.size)).toList==d.toList)=false:=by simpa using B
     have q:h=(dK d.data.toList (s.data.toList.drop (i+1))).map (i+1+·):=by
      rw[k.o,a,sq hE,Option.map_map];congr 1;funext j;show i+(j+1)=i+1+j;omega
     have z:Hid (h=(dK d.data.toList (s.data.toList.drop (i+1))).map (i+1+·)):=q;clear a f hE q;go_wp2_with fail
     exact⟨⟨i+1,by omega,by go_num,trivial,z.o⟩,by simp[intOf];omega⟩
   .have u:¬(i:Int)+d.size<=s.size:=by omega
    have c:n=⟨#[]⟩:=by
     have r:=k.o;rw[Ie HD.o (by rw[lD];omega)]at r;have:=HI.o;rw[r]at this;exact this
    have m:Hid (n=⟨#[]⟩):=c;clear c;go_wp2;go_ret;exact⟨by rw[m.o];rfl,Q⟩
theorem Mn{a b}(h:FF a b=Z):(a.kind==b.kind)=Z\/((a.kind==b.kind)=Y/\(a.text.toList==b.text.toList)=Z)\/((a.kind==b.kind)=Y/\(a.text.toList==b.text.toList)=Y/\(a.MG==b.MG)=Z):=by
 by_cases c:a.kind=b.kind
 .by_cases d:a.text=b.text
  .refine Qd (Qd ⟨by simp[c],by rw[d];exact wH _,?_⟩);simp[FF,c,d]at h;simp[h]
  .exact Qd (Qc ⟨by simp[c],wI d⟩)
 .grind
theorem jO l:∀u∈aq l,u.oneCell'=true:=by
 intro u a;simp only[aq,List.mem_flatMap]at a;obtain⟨x,-,b⟩:=a;simp at b;rcases b with rfl|rfl|rfl<;>rfl
theorem If{x:ItD}{i:H}(h:i<l.length):atN x l (i+1)=if ov l[i] x then i+1 else atN x l i:=by
 rw[atN,eL h]
theorem Ar B v l x w(h:w.ownsRow B 117 3 v l.length (aq l))(hB:B<=w.heap.size)(hn:l.length<=1000):
  Calls Yq.prog 84 #[v,itVal x] w λe w'=>∃v',e=Nm v'/\w'.ownsRow B 117 3 v' (bh l x).length (aq (bh l x))/\Below w.heap.size w w':=by
 obtain⟨a,c,rfl,hx⟩:=(tT h).form;have HX:Hid (l≠[]->∃g,a=J ⟨g,0,N⟩/\∀j,j<l.length*3->w.cell? ⟨g,j,N⟩=(aq l)[j]?):=hx;have HH:Hid (w.ownsRow B 117 3 (M a l.length c) l.length (aq l)):=h;clear hx h;obtain⟨n,ar⟩:∃n,l.length=n:=⟨_,Q⟩;have HN:Hid (l.length=n):=ar;rw[ar]at hn ⊢;clear ar;have HL:Hid (∀ (i:H) (h:i<l.length) (w:Wj),Calls Yq.prog 106 #[itVal l[i],itVal x] w λe w'=>e=Nm (C (ov l[i] x))/\Below w.heap.size w w'):=λi h w=>EV _ _ w
 obtain⟨f,d,b⟩:=x;unfold itVal at *;have⟨i0,V,aa,ad,R⟩:=info_parts Yq.Nu;go_enter (Yq.nq func84),ntmps84;go_wp2_with fail
 have a7:Below w.heap.size w (w.alloc (E #[I K f,U d,I K b] 117)):=(bR _ w).alloc (lR _) _;have x0:(w.alloc (E #[I K f,U d,I K b] 117)).cell? ⟨w.heap.size,0,N⟩=J (I K f):=by rw[cA (w:=w) _ _ w.heap.size 0 Q];rfl
 have x1:(w.alloc (E #[I K f,U d,I K b] 117)).cell? ⟨w.heap.size,1,N⟩=J (U d):=by rw[cA (w:=w) _ _ w.heap.size 1 Q];rfl
 have x2:(w.alloc (E #[I K f,U d,I K b] 117)).cell? ⟨w.heap.size,2,N⟩=J (I K b):=by rw[cA (w:=w) _ _ w.heap.size 2 Q];rfl
 have HW:Hid (Below w.heap.size w (w.alloc (E #[I K f,U d,I K b] 117))/\(w.alloc (E #[I K f,U d,I K b] 117)).cell? ⟨w.heap.size,0,N⟩=J (I K f)/\(w.alloc (E #[I K f,U d,I K b] 117)).cell? ⟨w.heap.size,1,N⟩=J (U d)/\(w.alloc (E #[I K f,U d,I K b] 117)).cell? ⟨w.heap.size,2,N⟩=J (I K b)):=⟨a7,x0,x1,x2⟩;clear a7 x0 x1 x2;generalize w.alloc (E #[I K f,U d,I K b] 117)=Wz at *
 go_loopw [5,6] (λs5 s6 wr=>∃i:H,i<=n/\s6=I K i/\s5=I K (atN ⟨f,d,b⟩ l i:H)/\(∀j (h:j<l.length),j<i->FF l[j] ⟨f,d,b⟩=Z)/\Below Wz.heap.size Wz wr) (λ_ s6 _=>n-(intOf s6).toNat)
 case atStart=>exact⟨0,Nat.zero_le _,Q,Q,λj h hj=>absurd hj (by omega),bR _ _⟩
 case round=>
  obtain⟨i,hin,rfl,rfl,a2,hb⟩:=hrel;have a5:Hid (∀j (h:j<l.length),j<i->FF l[j] ⟨f,d,b⟩=Z):=a2;have a3:Hid (Below Wz.heap.size Wz wr):=hb;have HB:Hid (Below w.heap.size w wr):=HW.o.1.t (hb.m HW.o.1.size);have x0:=ag hb HW.o.2.1;have x1:=ag hb HW.o.2.2.1;have x2:=ag hb HW.o.2.2.2;clear a2 hb;by_cases bt:i<n
  .have G:i<l.length:=by rw[HN.o];exact bt
   have bd:l≠[]:=by intro e;rw[e]at G;simp at G
   obtain⟨g,rfl,hc⟩:=HX.o bd;have⟨e0,e1,e2⟩:=nl l i G;have c0:=ag HB.o ((hc (i*3) (by omega)).t e0);have c1:=ag HB.o ((hc (i*3+1) (by omega)).t e1);have c2:=ag HB.o ((hc (i*3+2) (by omega)).t e2);have a0:=HL.o i G;have ap:=If (x:=⟨f,d,b⟩) G;have hii:(i:Int)<n:=by omega
   cases hq:FF l[i] ⟨f,d,b⟩with
   |true=>
    have HQ:Hid (bh l ⟨f,d,b⟩=l):=by
     show bh l ⟨f,d,b⟩=l;unfold bh;rw[pt (gL.2 ⟨_,List.getElem_mem G,hq⟩)]
    rw[tV]at hq;rw[hq]at c0 c1 c2;clear hq hc e0 e1 e2 ap a0 HL;simp only at c0 c1 c2;go_wp2
    go_region
    all_goals
     go_wp2;go_ret;have hd:=HB.o.drew;refine⟨_,Q,?_,hd⟩;rw[HQ.o,HN.o];have h:=HH.o;rw[HN.o]at h;exact h.kept (aO hd N) (dX _)
   |false=>
    have HQ:Hid (FF l[i] ⟨f,d,b⟩=Z):=hq;have hk:=Mn hq;have bw:Hid (∀j (h:j<l.length),j<i+1->FF l[j] ⟨f,d,b⟩=Z):=λj h hj=>by
     rcases Nat.lt_or_ge j i with h1|h1
     .exact a5.o j h h1
     .have:j=i:=by omega
      subst this;exact hq
    have bx:Hid (atN ⟨f,d,b⟩ l (i+1)=if ov l[i] ⟨f,d,b⟩then i+1 else atN ⟨f,d,b⟩ l i):=ap;clear hq ap hc e0 e1 e2 HL HX;generalize l[i]=it at *;generalize hls:ov it ⟨f,d,b⟩=ls at *;obtain⟨ik,itx,iv⟩:=it;simp only at c0 c1 c2 hk a0;rcases hk with hk|⟨hk,bv⟩|⟨hk,bv,hk3⟩<;>cases ls <;>
    .go_wp2
     go_region
     all_goals
      go_wp2_with fail
      go_region_with (go_at_call 106;refine(a0 _).m ?_;rintro e w2 ⟨rfl,b2⟩)
      all_goals
       go_wp2_with fail
       refine⟨⟨i+1,by omega,by go_num,?_,bw.o,a3.o.drew.drew.t (b2.m a3.o.drew.drew.size)⟩,by simp[intOf];omega⟩;rw[bx.o];simp
  .have bq:i=n:=by omega
   subst bq;have hm:=IS ⟨f,d,b⟩ l i;have HP:Hid (bh l ⟨f,d,b⟩=l.take (atN ⟨f,d,b⟩ l i)++⟨f,d,b⟩::l.drop (atN ⟨f,d,b⟩ l i)):=by
    show bh l ⟨f,d,b⟩=_;unfold bh;rw[sq,HN.o];intro h;have⟨z,hz,e⟩:=gL.1 h;obtain⟨j,hj,rfl⟩:=gM hz;rw[a5.o j hj (by rw[<-HN.o];exact hj)]at e;cases e
   generalize atN ⟨f,d,b⟩ l i=m at *;have F:=HH.o;rw[HN.o]at F;rcases F.2 with⟨hv,h0⟩|⟨g,ac,P,hv,-,-,bn,bi,-⟩
   .subst h0;injection hv with hv1 _ hv2
    subst hv1;subst hv2;have b0:m=0:=by omega
    subst b0;clear HX HL F;have be:l=[]:=List.length_eq_zero_iff.1 HN.o;subst be
    go_upto_region 12 with fail
    have av:Hid (∀j u,[Value.int K f,U d,I K b][j]?=J u->(wr.alloc (E #[I K f,U d,I K b] 117)).cell? ((⟨wr.heap.size,0,N⟩:Addr).add j)=J u):=na wr (I K f) (U d) (I K b) 117;have L:wr.heap.size<=(wr.alloc (E #[I K f,U d,I K b] 117)).heap.size:=by simp
    have bp:Hid (Below wr.heap.size wr (wr.alloc (E #[I K f,U d,I K b] 117))):=(bR _ wr).alloc (lR _) _
    go_upto_region 13 with(at_builtin;go_loud (refine lj _ Q _ _ 44 Q wr.heap.size 117 i0 _ 3 32 (Yq.u underlying44) V aa ad R Q (by decide) _ 0 [] Q (World.ownsRow_nil _ _ _ _) ⟨wr.heap.size,0,N⟩ 1 1 [I K f,U d,I K b] Q Q av.o (by simp[Value.oneCell']) (by simp only[lk];omega) (by omega) L ?_);intro v2 w2 D af _;obtain⟨ai,X,rfl,-⟩:=az D)
    have y:Hid (Below wr.heap.size wr w2/\w2.ownsRow wr.heap.size 117 3 (M ai (0+1) X) (0+1) [I K f,U d,I K b]):=⟨bp.o.grown (row:=N) af L (λk e=>by cases e),by simpa using D⟩;obtain⟨g2,cap2,b4,-⟩:=cq y.o.2 (by omega);have hcap:1<=X:=by
     rcases y.o.2.2 with⟨hv,h0⟩|⟨g,ac,P,hv,-,-,bn,bi,-⟩
     .cases h0
     .injection hv with hv1 _ hv2
      omega
    clear D af;cases b4;go_wp2_with fail
    go_ret;refine⟨_,Q,?_,HB.o.t (y.o.1.m HB.o.size)⟩;rw[HP.o];have p:=y.o.2;exact⟨p.1,p.2.imp id λ⟨g,ac,P,e,hb,r⟩=>⟨g,ac,P,e,lT hB (lT HB.o.size hb),r⟩⟩
   .injection hv with hv1 _ hv2
    subst hv1;subst hv2;clear HX HL F;have hmc:m<=c:=by omega
    have hmc':(m:Int)<=c:=by omega
    have bs:(aq (l.take m)).length=m*3:=by rw[ff,tL,HN.o];congr 1;omega
    have bl:Hid (∀t u,(aq (l.take m))[t]?=J u->wr.cell? ((⟨g,0,N⟩:Addr).add t)=J u):=λt u ht=>by
     refine ag HB.o (HH.o.cells (g:=g) Q t u ?_);have h3:aq (l.take m)=(aq l).take (m*3):=(iq 3 _ (λ_=>Q) l m).s;rw[h3,List.getElem?_take]at ht;split at ht
     .exact ht
     .cases ht
    go_upto_region 12 with(at_builtin;go_loud (refine lj _ Q _ _ 44 Q wr.heap.size 117 i0 _ 3 32 (Yq.u underlying44) V aa ad R Q (by decide) _ 0 [] Q (World.ownsRow_nil _ _ _ _) ⟨g,0,N⟩ m c (aq (l.take m)) Q bs bl.o (jO _) (by simp only[lk];omega) (by omega) (lR _) ?_);intro v1 w1 aj a8 _;obtain⟨a9,bb,rfl,-⟩:=az aj)
    have A:Hid (Below wr.heap.size wr w1/\w1.ownsRow wr.heap.size 117 3 (M a9 m bb) m (aq (l.take m))):=⟨(bR _ wr).grown (row:=N) a8 (lR _) (λk e=>by cases e),by simpa using aj⟩;clear aj a8;replace x0:=ag A.o.1 x0;replace x1:=ag A.o.1 x1;replace x2:=ag A.o.1 x2;have al:Hid ((w1.alloc (E #[I K f,U d,I K b] 117)).ownsRow wr.heap.size 117 3 (M a9 m bb) m (aq (l.take m))/\Below wr.heap.size wr (w1.alloc (E #[I K f,U d,I K b] 117))):=⟨A.o.2.alloc _,A.o.1.alloc A.o.1.size _⟩;have av:Hid (∀j u,[Value.int K f,U d,I K b][j]?=J u->(w1.alloc (E #[I K f,U d,I K b] 117)).cell? ((⟨w1.heap.size,0,N⟩:Addr).add j)=J u):=na w1 (I K f) (U d) (I K b) 117;have L:=al.o.2.size
    go_upto_region 13 with(at_builtin;go_loud (refine lj _ Q _ _ 44 Q wr.heap.size 117 i0 _ 3 32 (Yq.u underlying44) V aa ad R Q (by decide) _ m _ Q al.o.1 ⟨w1.heap.size,0,N⟩ 1 1 [I K f,U d,I K b] Q Q av.o (by simp[Value.oneCell']) (by simp only[lk];omega) (by omega) L ?_);intro v2 w2 D af _;obtain⟨ai,X,rfl,-⟩:=az D)
    have y:Hid (Below wr.heap.size wr w2/\w2.ownsRow wr.heap.size 117 3 (M ai (m+1) X) (m+1) (aq (l.take m)++[I K f,U d,I K b])):=⟨al.o.2.grown af L (λk e=>(A.o.2.lt k e).1),D⟩;clear D af;obtain⟨q,hq⟩:∃q,i=m+q:=⟨i-m,by omega⟩;have a1:(aq (l.drop m)).length=q*3:=by rw[ff,lD,HN.o];congr 1;omega
    have a6:Hid (∀a:Addr,(a=⟨g,m*3,N⟩\/q=0)->∀t u,(aq (l.drop m))[t]?=J u->w2.cell? (a.add t)=J u):=λa ha t u ht=>by
     rcases ha with rfl|h0
     .have h3:aq (l.drop m)=(aq l).drop (m*3):=(ir 3 _ (λ_=>Q) l m).s;rw[h3,List.getElem?_drop]at ht;have:=ag y.o.1 (ag HB.o (HH.o.cells (g:=g) Q _ u ht));rw[Addr.add_lit]at this ⊢;simpa using this
     .have:aq (l.drop m)=[]:=List.eq_nil_of_length_eq_zero (by omega);rw[this]at ht;simp at ht
    have T:=y.o.1.size;have a4:Hid (∀ (v3:Wx) (w3:Wj),w3.ownsRow wr.heap.size 117 3 v3 (m+1+q) ((aq (l.take m)++[I K f,U d,I K b])++aq (l.drop m))->w2.grownBy w3 (Value.slice ai (m+1) X).ownBlock->w3.ownsRow B 117 3 v3 (bh l ⟨f,d,b⟩).length (aq (bh l ⟨f,d,b⟩))/\Below w.heap.size w w3):=λv3 w3 p ab=>by
     have b5:Below wr.heap.size wr w3:=y.o.1.grown ab T (λk e=>(y.o.2.lt k e).1);refine⟨?_,HB.o.t (b5.m HB.o.size)⟩;rw[HP.o];have e1:(l.take m++⟨f,d,b⟩::l.drop m).length=m+1+q:=by rw[lP,lC,tL,lD,HN.o];omega
     have e2:aq (l.take m++⟨f,d,b⟩::l.drop m)=(aq (l.take m)++[I K f,U d,I K b])++aq (l.drop m):=by simp[aq]
     rw[e1,e2];exact⟨p.1,p.2.imp id λ⟨g,ac,P,e,hb,r⟩=>⟨g,ac,P,e,lT hB (lT HB.o.size hb),r⟩⟩
    have h1000:m+q<=1000:=by omega
    have hqc:m+q<=c:=by omega
    rw[hq]at *;clear hq;by_cases b3:c=m
    .have b1:q=0:=by omega
     subst b1;subst b3;go_wp2_with (at_builtin;go_loud (refine lj _ Q _ _ 44 Q wr.heap.size 117 i0 _ 3 32 (Yq.u underlying44) V aa ad R Q (by decide) _ _ _ Q y.o.2 ⟨g,0,N⟩ 0 0 (aq (l.drop c)) Q a1 (a6.o _ (Or.inr Q)) (jO _) (by simp only[lk];omega) (by omega) T ?_);intro v3 w3 p ab _;obtain⟨bo,bk,rfl,-⟩:=az p)
     go_ret;exact⟨_,Q,a4.o _ _ p ab⟩
    .go_wp2_with (at_builtin;go_loud (refine lj _ Q _ _ 44 Q wr.heap.size 117 i0 _ 3 32 (Yq.u underlying44) V aa ad R Q (by decide) _ _ _ Q y.o.2 ⟨g,m*3,N⟩ q (c-m) (aq (l.drop m)) Q a1 (a6.o _ (Or.inl Q)) (jO _) (by simp only[lk];omega) (by omega) T ?_);intro v3 w3 p ab _;obtain⟨bo,bk,rfl,-⟩:=az p)
     go_ret;exact⟨_,Q,a4.o _ _ p ab⟩
def L3(w:Wj)(v:Wx)(Mt:S ItD):Prop:=∃a c,v=M a Mt.length c/\(Mt≠[]->∃g o,a=J ⟨g,o,N⟩/\∀j,j<Mt.length*3->w.cell? ⟨g,o+j,N⟩=(aq Mt)[j]?)
theorem g8.o{w}{v}(h:g8 w v Mt):L3 w v Mt:=by
 obtain⟨a,c,rfl,f⟩:=h.form;refine⟨a,c,Q,λb=>?_⟩;obtain⟨g,rfl,e⟩:=f b;exact⟨g,0,Q,λj d=>by rw[zA];exact e j d⟩
theorem nv F z Mt w(B:g8 w F Mt)(R:L3 w z Mt)(T:Mt.length<=100000):
  Calls Yq.prog 60 #[F,z] w λe P=>e=Nm (C Y)/\Below w.heap.size w P:=by
 obtain⟨a,c,rfl,A⟩:=B.form;obtain⟨b,d,rfl,y⟩:=R;have HX:Hid (Mt≠[]->∃g,a=J ⟨g,0,N⟩/\∀j,j<Mt.length*3->w.cell? ⟨g,j,N⟩=(aq Mt)[j]?):=A;have HY:Hid (Mt≠[]->∃g o,b=J ⟨g,o,N⟩/\∀j,j<Mt.length*3->w.cell? ⟨g,o+j,N⟩=(aq Mt)[j]?):=y;clear A y B;obtain⟨n,r⟩:∃n,Mt.length=n:=⟨_,Q⟩;have HN:Hid (Mt.length=n):=r;rw[r]at T ⊢;clear r;go_enter (Yq.nq func60),ntmps60;go_wp2_with fail
 go_loopw [5] (λs5 wr=>∃i:H,i<=n/\s5=I K i/\Below w.heap.size w wr) (λs5 _=>n-(intOf s5).toNat)
 case atStart=>exact⟨0,Nat.zero_le _,Q,bR _ _⟩
 case round=>
  obtain⟨i,hin,rfl,f⟩:=hrel;by_cases q:i<n
  .have k:i<Mt.length:=by rw[HN.o];exact q
   have l:Mt≠[]:=by intro e;rw[e]at k;simp at k
   obtain⟨g,rfl,m⟩:=HX.o l;obtain⟨g',of,rfl,h⟩:=HY.o l;have⟨p,s,v⟩:=nl Mt i k;have X:=ag f ((m (i*3) (by omega)).t p);have c1:=ag f ((m (i*3+1) (by omega)).t s);have G:=ag f ((m (i*3+2) (by omega)).t v);have L:=ag f ((h (i*3) (by omega)).t p);have D:=ag f ((h (i*3+1) (by omega)).t s);have x:=ag f ((h (i*3+2) (by omega)).t v);rw[<-Nat.add_assoc]at D x;generalize Mt[i]=V at *;obtain⟨kind,text,MG⟩:=V;simp only at X c1 G L D x;have HB:Hid (Below w.heap.size w wr):=f;clear f m h p s v HX HY;go_wp2
   go_region
   all_goals
    go_wp2;exact⟨⟨i+1,by omega,by go_num,HB.o.drew⟩,by simp[intOf];omega⟩
  .have u:i=n:=by omega
   subst u;have HB:Hid (Below w.heap.size w wr):=f;clear f;go_wp2;go_ret;exact⟨Q,HB.o⟩
theorem nw l x:(bh l x).length<=l.length+1:=by
 unfold bh
 grind
theorem tY:∀ (m l:S ItD),(m.foldl bh l).length<=l.length+m.length
 | [],l=>by simp
 |x::m,l=>by
  have h1:=tY m (bh l x);have h2:=nw l x;rw[g6,lC];omega
theorem wQ(b:tb)k h(a:h≠[]):(bF b k h).length<=h.length:=by
 have:=dT.2 a;unfold bF
 grind
theorem B9 q l a(b:a.2≠[]):(eT q l a).length<=l.length+a.2.length:=by
 have h0:=dT.2 b;unfold eT;split
 .split
  .rename_i c _;have:=nw l ⟨2,⟨c.toArray⟩,0⟩;omega
  .have h1:=tY (bF q.vs a.1 a.2).reverse l;have h2:=wQ q.vs a.1 a.2 b
   grind
 .omega
theorem At q:∀ (R:KVs)(l:S ItD),(∀a∈R,a.2≠[])->(R.foldl (eT q) l).length<=l.length+fG R
 | [],l,_=>by simp[fG]
 |a::R,l,h=>by
  have h1:=At q R (eT q l a) (λx b=>h x (by simp[b]));have h2:=B9 q l a (h a (by simp));have e:fG (a::R)=a.2.length+fG R:=by simp[fG]
  rw[g6,e];omega
def ny(e:bg):S nF×S Ver:=(e.key.data.toList,e.h)
def bZ(q:Qy)(R:S bg)(i:H):S ItD:=fQ q ((R.take i).map ny)
theorem Ca(q:Qy)(R:S bg)(i:H)(h:i<R.length):bZ q R (i+1)=eT q (bZ q R i) (ny R[i]):=by
 unfold bZ fQ;rw[tS h,jp,gI];rfl
theorem Ig R:fG (R.map ny)=totR R:=by
 unfold fG totR;rw[List.map_map];rfl
theorem EX q R i(h:∀e∈R,e.h≠[]):(bZ q R i).length<=totR R:=by
 have b:=At q ((R.take i).map ny) [] (λkh a=>by
  obtain⟨e,c,rfl⟩:=eW.1 a;exact h e (List.mem_of_mem_take c))
 rw[Ig]at b;have h2:=nt R i;unfold bZ fQ
 grind
theorem EY{i}{R}{u}(c:Sim i R u)q(r:∀k,(i.f k).Pairwise λa b=>a.num<b.num)(h:∀k,i.f k≠[]->k.length<=40):fQ q (R.map ny)=bV q (bL i.f q.p.data.toList):=by
 refine yO q i.f (R.map ny) r h (λkh m=>?_) λk o=>?_
 .obtain ⟨e,d,rfl⟩:=eW.1 m;have n:=c.here e d;exact⟨n.s,λj=>c.full e d (n.s.t j)⟩
 .refine Classical.byContradiction λl=>o (c.gone k λe d j=>l ?_)
  refine eW.2 ⟨e,d,?_⟩;unfold ny;rw[j,<-c.here e d,j]
theorem yT{q}(h:q.p.data.toList.isPrefixOf a.1=Z\/iT q a.1 a.2=Z):eT q l a=l:=by
 unfold eT;rw[sq];rcases h with h|h<;>simp[h]
theorem tZ{q}{c}(b:q.p.data.toList.isPrefixOf a.1=Y)(d:iT q a.1 a.2=Y)(e:aV q a.1=J c):eT q l a=bh l ⟨2,⟨c.toArray⟩,0⟩:=by
 unfold eT;rw[pt (by simp[b,d]),e]
theorem Cb{q}(a:q.p.data.toList.isPrefixOf kh.1=Y)(b:iT q kh.1 kh.2=Y)(c:aV q kh.1=N):eT q l kh=(bF q.vs kh.1 kh.2).reverse.foldl bh l:=by
 unfold eT;rw[pt (by simp[a,b]),c]
def dY(a:tb)(k:S nF)(h:S Ver)(l:S ItD)(j:H):S ItD:=if a then((h.take j).map (fF k)).foldl bh l else if j<h.length then l else bh l ⟨1,⟨k.toArray⟩,(oo h).num⟩
theorem Cc(b:tb)k h(a:h≠[])l:dY b k h l 0=l:=by
 unfold dY;split
 .rfl
 .rw [pt (dT.2 a)]
theorem EZ(a:tb)k h l:dY a k h l h.length=(bF a k h).reverse.foldl bh l:=by
 unfold dY bF;split
 .rw [List.take_length,<-List.map_reverse,List.reverse_reverse]
 .rw [sq (Nat.lt_irrefl _)];rfl
theorem Ih(k:S nF)(h:S Ver)(l:S ItD)(j:H)(a:j<h.length):dY Y k h l (j+1)=bh (dY Y k h l j) (fF k h[j]):=by
 unfold dY;simp only[ta];rw[tS a,jp,gI];rfl
theorem E1 k h l j(a:j+1<h.length):dY Z k h l (j+1)=dY Z k h l j:=by
 unfold dY;simp only[Bool.false_eq_true,sT];rw[pt a,pt (by omega)]
theorem Cd(k:S nF)(h:S Ver)(l:S ItD)(j:H)(hj:j+1=h.length):dY Z k h l (j+1)=bh (dY Z k h l j) ⟨1,⟨k.toArray⟩,(h[j]'(by omega)).num⟩:=by
 have e:(oo h)=h[j]'(by omega):=by
  unfold oo;rw[List.getLast?_eq_getElem?,show h.length-1=j by omega,eL (by omega)];rfl
 unfold dY;simp only[Bool.false_eq_true,sT];rw[sq (by omega),pt (by omega),e]
theorem E2(b:tb)k h(a:h≠[])l j:(dY b k h l j).length<=l.length+h.length:=by
 have h0:=dT.2 a;unfold dY;split
 .have:=tY ((h.take j).map (fF k)) l;rw[lM,tL]at this;omega
 .split
  .omega
  .have:=nw l ⟨1,⟨k.toArray⟩,(oo h).num⟩;omega
end
