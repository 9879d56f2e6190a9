/- A part. -/
import Derived.Test.YtenhoolepfelcaaGreatDoorQP08
import Derived.Deep.AppendLies
set_option maxHeartbeats 4000000
set_option maxRecDepth 100000
open _root_ renaming ByteArray->dT,UInt8->ey,Int->eV,if_neg->eW,congrArg->gI,if_pos->gL,absurd->g6,Option->jp,of_decide_eq_true->kr,decide_eq_false->lj,Bool->lk,decide_eq_decide->nF,exists_eq_or_imp->n8,decide_eq_true->pt
open List renaming pairwise_iff_getElem->sq,getElem_mem->sT,pairwise_append->ta,mem_append->tb,mem_cons->tn,foldl_cons->uc,length_pos_iff->vf,pairwise_cons->vx,isPrefixOf_iff_prefix->wd,mem_singleton->xb,map_append->xc,cons_lt_cons_iff->xt,take_append_drop->xv,cons_append->yz,pairwise_singleton->NE,mem_flatMap->Pi,getElem_set->PA,mem_map->PB,length_set->PI,drop_append_of_le_length->PJ,length->PK,prefix_append->PL,flatMap_cons->PM,length_eq_zero_iff->PN,eq_nil_or_concat->PO,concat_eq_append->PP,set_append_right->PQ,mem_append_left->PR,mem_iff_getElem->PS,take_succ_cons->PT,flatMap_append->PU,pairwise_map->PV,any_eq_true->PW,sum_append->PX,foldl_nil->PY,lt_trans->PZ,map_map->P0
open Go.Value renaming ownBlock->P9,slice->Qg,int->Qh
open UInt8 renaming ofNat->Qi,toNat_ofNat'->Qj,toNat->Qk
open Or renaming inr->Ql,inl->Qm
open Go.Lib renaming decDigits_one->Qn,decDigits->Qo,strCells->Qp
open List.cons renaming inj->Qq
open Int renaming natCast_add->Qr,natCast_mul->Qs,natCast_one->Qt
open Array renaming toList_inj->Qu
open Classical renaming byContradiction->Qv
open Go renaming wrap_small->Qx,bodyPost_ret->Qz,TypeId->QB
open ByteArray renaming ext->QC,size->QD
open Nat renaming zero_le->QG,strongRecOn->QH,mul_le_mul->QI
open Go renaming World->Wj,Value->Wx
namespace Go.Proofs.Qw
open _root_ renaming rfl->Q
open _root_ renaming Nat->H,List->S
open Option renaming none->N,some->J
open Bool renaming true->Y,false->Z
open Value renaming int->I,string->U,slice->M,pointer->O,bool->C,agg->Qa
open IntKind renaming i64->K
open Obj renaming cells->E
open Ending renaming returned->Nm
open Or renaming inl->Qc,inr->Qd
variable {W w w' w1:Wj}{V b f p v v':Wx}{B a g i k s t vc x:H}{c nx tm:eV}{d j l:St}{e o:dT×Ver}{L:Lg}{T z:lk}
open Tryz
section
open Go.Conc Go.ConcX Go.ConcX.Gen Go.RowKit
theorem nl:∀ (l:S ItD)(i:H)(a:i<l.length),(aq l)[i*3]?=J (I K l[i].kind)/\(aq l)[i*3+1]?=J (U l[i].text)/\(aq l)[i*3+2]?=J (I K l[i].MG)
 | [],i,a=>by simp at a
 |z::l,0,a=>by simp[aq]
 |z::l,i+1,a=>by
  have ih:=nl l i (by simpa using a);have e:aq (z::l)=[I K z.kind,U z.text,I K z.MG]++aq l:=by simp[aq]
  have b:∀j,(aq (z::l))[(i+1)*3+j]?=(aq l)[i*3+j]?:=λj=>by
   rw[e,List.getElem?_append_right (by simp;omega)];congr 1;simp;omega
  simp only[List.getElem_cons_succ];exact⟨(b 0).t ih.1,(b 1).t ih.2.1,(b 2).t ih.2.2⟩
structure g8 (w:Wj)(v:Wx)(Mt:S ItD):Prop where
 form:∃a cap,v=M a Mt.length cap/\(Mt≠[]->∃g,a=J ⟨g,0,N⟩/\∀j,j<Mt.length*3->w.cell? ⟨g,j,N⟩=(aq Mt)[j]?)
theorem cw.Mt{A:H->Prop}{Mt}(h:cw A w v Mt.length (aq Mt)):g8 w v Mt:=by
 obtain⟨a,b,rfl,-,f⟩:=h;refine⟨a,b,Q,λc=>?_⟩;obtain⟨g,rfl,-,-,e⟩:=f (by
  cases Mt with
  |nil=>exact g6 Q c
  |cons i r=>simp[aq])
 exact⟨g,Q,λj d=>e j (by rw[ff];exact d)⟩
theorem g8.left{Mt}(h:g8 w v Mt)(i:ay w w'):g8 w' v Mt:=by
 obtain⟨a,b,rfl,k⟩:=h.form;refine⟨a,b,Q,λd=>?_⟩;obtain⟨g,rfl,f⟩:=k d;refine⟨g,Q,λj e=>?_⟩;have:=f j e;rw[<-this];have c:j<(aq Mt).length:=by rw[ff];exact e
 rw[eL c]at this;exact(i.cell this).t this.s
theorem tT{Mt}(h:w.ownsRow a 117 3 v Mt.length (aq Mt)):g8 w v Mt:=by
 rcases h.2 with⟨rfl,d⟩|⟨g,b,cur,rfl,hbg,hg,hnc,hcm,hcs,htake⟩
 .exact ⟨N,0,by rw[d],λc=>g6 (PN.1 d) c⟩
 .exact ⟨_,b,Q,λ_=>⟨g,Q,λj e=>h.cellAt j e⟩⟩
@[simp] theorem LY:Yq.prog.stoodInHeld 117=false:=by kernel_rfl
end
section
open Go.RowKit
theorem IP(p x y:S ey):p++x<p++y↔x<y:=by
 induction p with
 |nil=>simp
 |cons a p ih=>simp[ih]
theorem nT n:∀ (f:S ey->S Ver)(h:S ey),(dC n f h).Pairwise λa b=>a.1<b.1:=by
 induction n with
 |zero=>intro f h;simp[dC]
 |succ n ih=>
  intro f h;have j:∀b,∀x∈dC n (λk=>f (b::k)) (h++[b]),∃r,x.1=h++(b::r):=λb x d=>by
   obtain⟨r,i⟩:=(vK n _ _ x d).1;exact⟨r,by rw[<-i];simp⟩
  rw[dC,ta];refine⟨?_,?_,?_⟩
  .split<;>simp
  .have p:=lh;generalize Ct=l at p;induction l with
   |nil=>simp
   |cons b l o=>
    have⟨s,q⟩:=vx.1 p;rw[PM,ta];refine⟨ih _ _,o q,λx d y e=>?_⟩;have⟨c,t,e⟩:=Pi.1 e;have⟨r,i⟩:=j b x d;have⟨r',m⟩:=j c y e;rw[i,m,IP,xt];exact Qc (s c t)
  .intro x d y e;obtain⟨c,-,e⟩:=Pi.1 e;have⟨r,i⟩:=j c y e;split at d
   .simp at d
   .simp only[xb]at d;subst d;rw[i];have:=(IP h [] (c::r)).2 (by simp);simpa using this
theorem ww(f:S ey->S Ver)p:(bL f p).Pairwise λa b=>a.1<b.1:=nT _ _ _
theorem lu:∀ (c k x:S ey),c <+:k->¬x<c->x<k->c <+:x
 | [],_,x,_,_,_=>List.nil_prefix
 |a::c,k,x,h,h1,d=>by
  obtain⟨r,rfl⟩:=h;cases x with
  |nil=>exact g6 (by simp) h1
  |cons b x=>
   rw[yz,xt]at d;rw[xt]at h1;rcases d with d|⟨rfl,d⟩
   .exact g6 (Qc d) h1
   .have:=lu c (c++r) x (PL _ _) (λe=>h1 (Qd ⟨Q,e⟩)) d;exact List.cons_prefix_cons.2 ⟨Q,this⟩
theorem Ew(d u r:S ey)(h:d.length<=u.length):d.isPrefixOf (u++r)=d.isPrefixOf u:=by
 rw[Bool.eq_iff_iff,wd,wd];constructor
 .intro a;exact List.prefix_of_prefix_length_le a (PL u r) h
 .grind
theorem jJ{d}(c:d≠[]):∀ (s:S ey)(i:H),dK d s=J i->i+d.length<=s.length
 | [],i,h=>by simp[dK,c]at h
 |b::r,i,h=>by
  rw[dK]at h;split at h
  .rename_i e;cases h;have:=(wd.1 e).length_le;omega
  .cases a:dK d r with
   |none=>simp[a]at h
   |some j=>
    have:=jJ c r j a;simp[a]at h;simp only[lC];omega
theorem wz{d}(e:d≠[])r k:∀ (u:S ey)(i:H),u.length=i+d.length->dK d (u++r)=J i->dK d (u++k)=J i
 | [],i,hl,h=>by
  have:0<d.length:=vf.2 e;simp only[lN]at hl;omega
 |b::u,i,hl,h=>by
  have c:d.length<=(b::u).length:=by omega
  rw[yz,dK]at h ⊢;rw[<-yz,Ew d _ _ c]at h ⊢;by_cases f:d.isPrefixOf (b::u)=Y
  .rw [gL f]at h ⊢;exact h
  .rw [eW f]at h ⊢;cases a:dK d (u++r)with
   |none=>simp[a]at h
   |some j=>
    simp[a]at h;have:=wz e r k u j (by simp only[lC]at hl;omega) a;rw[this];simp[h]
theorem rM{q}{k c x}(h:aV q k=J c)(o:c <+:x):aV q x=J c:=by
 unfold aV at h ⊢;by_cases j:q.d.size=0
 .grind
 .rw [eW j]at h ⊢;have f:q.d.data.toList≠[]:=λe=>j (by simpa using gI PK e)
  have a:q.d.data.toList.length=q.d.size:=by simp
  cases b:dK q.d.data.toList (k.drop q.p.size)with
  |none=>simp[b]at h
  |some i=>
   simp[b]at h;have m:=jJ f _ i b;rw[lD,a]at m;have hpos:0<q.d.size:=by omega
   have hcl:c.length=q.p.size+i+q.d.size:=by grind
   obtain⟨r,rfl⟩:=o;have hk:k=c++k.drop (q.p.size+i+q.d.size):=by rw[<-h];exact(xv _ _).s
   have l:k.drop q.p.size=c.drop q.p.size++k.drop (q.p.size+i+q.d.size):=by
    grind
   have n:(c++r).drop q.p.size=c.drop q.p.size++r:=PJ (by omega);rw[l]at b;rw[n,wz f _ r (c.drop q.p.size) i (by rw[lD,a];omega) b]
   grind
theorem ke{q}{b c}(h:aV q b=J c):c <+:b:=by
 unfold aV at h;split at h
 .cases h
 .cases a:dK q.d.data.toList (b.drop q.p.size)with
  |none=>simp[a]at h
  |some i=>
   grind
def txt(x:ItD):S ey:=x.text.data.toList
theorem rN:∀ {c k:S ey},c <+:k->¬k<c
 | [],k,_=>by simp
 |a::c,k,h=>by
  obtain⟨r,rfl⟩:=h;rw[yz,xt];rintro(h|⟨-,h⟩)
  .exact g6 h (by simp)
  .exact rN (PL c r) h
theorem LZ{d b:S ey}(h:¬d<b)(hne:d≠b):b<d:=by grind
theorem IQ{d b x:S ey}(h:d <+:b)(a:b<x):d<x:=by
 by_cases e:d=b
 .grind
 .exact PZ (LZ (rN h) (λh=>e h.s)) a
end
section
open Go.Conc Go.ConcX Go.ConcX.Gen Go.RowKit
def baL(l:S ey):dT:=⟨l.toArray⟩
theorem iX l:(baL l).size=l.length:=by simp[baL,QD]
theorem Lm(s:dT):baL s.data.toList=s:=QC (by simp[baL])
theorem Ah l n:tkB (baL l) n=baL (l.take n):=by
 refine QC (Qu.1 ?_);simp[tkB,iX];simp[baL]
theorem Ai l n:rsB (baL l) n=baL (l.drop n):=by
 refine QC (Qu.1 ?_);simp only[rsB,ByteArray.data_extract,iX];by_cases h:n<=l.length
 .rw [Nat.min_eq_left h];simp[baL];rw[tO (by simp)]
 .rw [Nat.min_eq_right (by omega)];simp[baL];omega
def lw(n:H):S ey:=(List.range 8).map λi=>Qi (n/2 ^ (8*(7-i))%256)
theorem Aj n:(lw n).length=8:=by simp[lw]
theorem Ex n(h:n<18446744073709551616):ug (lw n)=n:=by
 have e:lw n=[Qi (n/2^56%256),Qi (n/2^48%256),Qi (n/2^40%256),Qi (n/2^32%256),Qi (n/2^24%256),Qi (n/2^16%256),Qi (n/2^8%256),Qi (n/2^0%256)]:=rfl;rw[e];have h5:n/2^40=n/2^48*256+n/2^40%256:=by omega
 have h4:n/2^32=n/2^40*256+n/2^32%256:=by omega
 have h3:n/2^24=n/2^32*256+n/2^24%256:=by omega
 have h2:n/2^16=n/2^24*256+n/2^16%256:=by omega
 simp only[ug,uc,PY,Qj,Nat.mod_mod,Nat.zero_mul,zA]
 grind
def gz(s:dT):S ey:=Qi (s.size%256)::s.data.toList
theorem Ey(s:dT)r(h:s.size<256):txB (baL (gz s++r))=s/\txR (baL (gz s++r))=baL r:=by
 have e:txL (baL (gz s++r))=s.size:=by
  rw[txL,Ah];simp only[baL,gz,yz,PT,List.take_zero,ug,uc,PY,Qj];omega
 have b:rsB (baL (gz s++r)) 1=baL (s.data.toList++r):=by rw[Ai];rfl
 have a:s.size=s.data.toList.length:=by simp
 refine⟨?_,?_⟩
 .rw [txB,e,b,Ah,a,List.take_left,Lm]
 .rw [txR,e,b,Ai,a,List.drop_left]
theorem Ak(n:Nat)(r:List UInt8)(h:n<18446744073709551616):nm8 (baL (lw n++r))=n/\rsB (baL (lw n++r)) 8=baL r:=by
 refine⟨?_,?_⟩
 .rw [nm8,Ah,List.take_append_of_le_length (by rw[Aj];omega)];exact Ex n h
 .rw [Ai,List.drop_append_of_le_length (by rw[Aj];omega)];rfl
theorem Al(b:ey)r:txL (baL (b::r))=b.toNat/\rsB (baL (b::r)) 1=baL r:=by
 refine⟨?_,by rw[Ai];rfl⟩;rw[txL,Ah];simp[baL,ug]
theorem qo{n:Type}{f:n->eV}:∀ {l m:S n},l.Pairwise (λa b=>f a<f b)->m.Pairwise (λa b=>f a<f b)->(∀x,x∈l↔x∈m)->l=m
 | [],[],_,_,_=>rfl
 | [],b::m,_,_,h=>by have:=(h b).2 (by simp);simp at this
 |a::l,[],_,_,h=>by have:=(h a).1 (by simp);simp at this
 |a::l,b::m,hl,hm,h=>by
  rw[vx]at hl hm;have j:a=b:=by
   have d:=(h a).1 (by simp);have i:=(h b).2 (by simp);rcases tn.1 d with d|d
   .exact d
   .rcases tn.1 i with i|i
    .exact i.s
    .have:=hm.1 a d;have:=hl.1 b i;omega
  subst j;congr 1;refine qo hl.2 hm.2 λx=>?_
  have k:=h x;simp only[tn]at k;constructor
  .intro c;rcases k.1 (Qd c)with e|e
   .subst e;have:=hl.1 _ c;omega
   .exact e
  .intro c;rcases k.2 (Qd c)with e|e
   .subst e;have:=hm.1 _ c;omega
   .exact e
def tU(e:dT×Ver):S ey:=if e.2.mark then 2::(lw e.2.num.toNat++gz e.1)else 1::(lw e.2.num.toNat++(gz e.1++gz e.2.body))
structure Ku (e:dT×Ver):Prop where
 key:aS e.1=Y
 body:e.2.body.size<=100
 mark:e.2.mark=Y->e.2.body=⟨#[]⟩
 num:1<=e.2.num/\e.2.num<=9223372036854775807
def qB(st:St)(e:dT×Ver):St:=bM (Ms st (e.2.num-1)) e.1 e.2.body e.2.mark
theorem H0{a}{x:eV}(h:Ku e)(z:a.last<e.2.num)(hc:a.count<200)r:dg a x (baL (tU e++r))=J (qB a e,x,baL r):=by
 obtain⟨k,v⟩:=e;obtain⟨d,A,t,B⟩:=h;simp only at d A t B z;have hks:=(kr d).2;have u:v.num.toNat<18446744073709551616:=by omega
 have q:mz a.last v.num.toNat=J (v.num-1):=by
  rw[mz,eW (by omega)];congr 1;omega
 have s:kx (Ms a (v.num-1))=false:=lj (by simp[Ms];omega);cases c:v.mark with
 |true=>
  have m:tU (k,v)++r=2::(lw v.num.toNat++(gz k++r)):=by simp[tU,c]
  have⟨n,o⟩:=Al 2 (lw v.num.toNat++(gz k++r));have⟨j,l⟩:=Ak v.num.toNat (gz k++r) u;have⟨p,i⟩:=Ey k r (by omega);have b:txL (baL (2::(lw v.num.toNat++(gz k++r))))=2:=n;have f:MA (Ms a (v.num-1)) k=(bM (Ms a (v.num-1)) k ⟨#[]⟩ Y,(Ms a (v.num-1)).last+1,0):=by simp[MA,d,s]
  rw[m,dg,eW (by omega),gL b,o,j,q,l,p,i];simp[f,qB,c,t c]
 |false=>
  have m:tU (k,v)++r=1::(lw v.num.toNat++(gz k++(gz v.body++r))):=by simp[tU,c]
  have⟨n,o⟩:=Al 1 (lw v.num.toNat++(gz k++(gz v.body++r)));have⟨j,l⟩:=Ak v.num.toNat (gz k++(gz v.body++r)) u;have⟨p,i⟩:=Ey k (gz v.body++r) (by omega);have⟨D,y⟩:=Ey v.body r (by omega);have b:txL (baL (1::(lw v.num.toNat++(gz k++(gz v.body++r)))))=1:=n;have f:ky (Ms a (v.num-1)) k v.body=(bM (Ms a (v.num-1)) k v.body Z,(Ms a (v.num-1)).last+1,0):=by
   simp[ky,d,s];omega
  rw[m,dg,gL b,o,j,q,l,p,i,D,y];simp[f,qB,c]
theorem rO(f:eV)r:∀ (c:S (dT×Ver))(d:St)(n:H),(∀e∈c,Ku e/\d.last<e.2.num)->c.Pairwise (λa b=>a.2.num<b.2.num)->d.count+c.length<=200->fP (n+c.length) d f (baL (c.flatMap tU++r))=fP n (c.foldl qB d) f (baL r)
 | [],d,n,_,_,_=>rfl
 |e::c,d,n,h,hp,hc=>by
  rw[vx]at hp;rw[lC]at hc ⊢;have j:=h e (by simp);have l:(e::c).flatMap tU++r=tU e++(c.flatMap tU++r):=by simp
  have o:¬(baL (tU e++(c.flatMap tU++r))).size=0:=by
   rw[iX,tU];split<;>simp
  rw[<-Nat.add_assoc,fP,l,eW o,H0 j.1 j.2 (by omega)];have m:(qB d e).last=e.2.num:=by simp[qB,bM,Ms]
  have i:(qB d e).count=d.count+1:=by simp[qB,bM,Ms]
  exact rO f r c (qB d e) n (λx k=>⟨(h x (by simp[k])).1,by rw[m];exact hp.1 x k⟩) hp.2 (by rw[i];omega)
theorem Ez(c:St)(d:eV)(a b n:H)(h1:c.last<=a)(h2:a<=9223372036854775807)(r:b<18446744073709551616):fP (n+3) c d (baL (3::(lw (a+1)++(4::lw b))))=J (⟨c.f,c.count,a⟩,(b:eV)):=by
 have⟨s,t⟩:=Al 3 (lw (a+1)++(4::lw b));have⟨o,q⟩:=Ak (a+1) (4::lw b) (by omega);have⟨u,k⟩:=Al 4 (lw b);have⟨j,i⟩:=Ak b [] r;rw[List.append_nil]at j i;have l:mz c.last (a+1)=J (a:eV):=by
  rw[mz,eW (by omega)];congr 1;omega
 have h:txL (baL (3::(lw (a+1)++(4::lw b))))=3:=s;have e:txL (baL (4::lw b))=4:=u;have m:dg c d (baL (3::(lw (a+1)++(4::lw b))))=J (Ms c a,d,baL (4::lw b)):=by
  rw[dg,eW (by omega),eW (by omega),gL h,t,o,l,q]
 have p:dg (Ms c a) d (baL (4::lw b))=J (Ms c a,(b:eV),baL []):=by
  rw[dg,eW (by omega),eW (by omega),eW (by omega),gL e,k,j,i]
 rw[show n+3=(n+2)+1 from Q,fP,eW (by rw[iX];simp),m];simp only;rw[show n+2=(n+1)+1 from Q,fP,eW (by rw[iX];simp),p];simp only;rw[fP,gL (by rw[iX];rfl)];rfl
theorem EA(k:S ey):∀ (a:S (dT×Ver))(b:St),(a.foldl qB b).f k=b.f k++(a.filter λe=>decide (e.1.data.toList=k)).map (·.2)
 | [],b=>by simp
 |e::a,b=>by
  rw[uc,EA k a];by_cases h:e.1.data.toList=k
  .subst h;have:(qB b e).f e.1.data.toList=b.f e.1.data.toList++[e.2]:=by simp[qB,bM,Ms,upd]
   rw[this,List.filter_cons_of_pos (by simp)];simp
  .have:(qB b e).f k=b.f k:=by
    simp only[qB,bM,Ms,upd];rw[eW (λx=>h x.s)]
   rw[this,List.filter_cons_of_neg (by simpa using h)]
theorem qp:∀ (a:S (dT×Ver))(b:St),(a.foldl qB b).count=b.count+a.length
 | [],b=>by simp
 |e::a,b=>by
  rw[uc,qp a];simp[qB,bM,Ms];omega
theorem rP(L:eV):∀ (a:S (dT×Ver))(b:St),b.last<=L->(∀e∈a,e.2.num<=L)->(a.foldl qB b).last<=L
 | [],b,h,_=>h
 |e::a,b,h,hE=>by
  rw[uc];exact rP L a _ (by have:=hE e (by simp);simp[qB,bM,Ms];omega) λx c=>hE x (by simp[c])
theorem wA n:∀ (f:S ey->S Ver)(bs k:S ey),k.length<n->f k≠[]->(bs++k,f k)∈dC n f bs:=by
 induction n with
 |zero=>intro f bs k a;omega
 |succ n ih=>
  intro f bs k a c;rw[dC,tb];cases k with
  |nil=>left;simp[c]
  |cons b k=>
   right
   refine Pi.2 ⟨b,oE b,?_⟩
   grind
def toB(v:Wx):ey:=Qi (intOf v).toNat
theorem Kv(s:dT):(Qp s).map toB=s.data.toList:=by
 have:(toB∘λb:ey=>Qh .u8 (b.toNat:eV))=id:=by
  funext b;simp[toB,intOf]
 rw[Qp,P0,this,List.map_id]
theorem Am(s:dT):(ot s).map toB=gz s:=by
 rw[ot,xc,Kv];have:((s.size:eV)%256).toNat=s.size%256:=by omega
 simp[toB,intOf,gz,this]
theorem Kw(n:H):(num8 (n:eV) 8).map toB=lw n:=by
 rw[num8,lw,P0];refine List.map_congr_left λi _=>?_
 simp;congr 1
theorem Kx(h:0<=e.2.num):(Cv e.1 e.2).map toB=tU e:=by
 obtain⟨n,b⟩:∃n:H,e.2.num=n:=⟨e.2.num.toNat,by omega⟩;have a:=Kw n;unfold Cv tU;rw[b];split
 .simp [a,Am,toB,intOf]
 .simp [a,Am,toB,intOf]
theorem An:∀ (a:S (dT×Ver)),(∀e∈a,0<=e.2.num)->(iA a).map toB=a.flatMap tU
 | [],_=>rfl
 |e::a,h=>by
  have:=An a λx b=>h x (by simp[b])
  simp only[iA,PM,xc]at this ⊢;rw[this,Kx (h e (by simp))]
theorem H5(a c:H)(f:j.last=a)(h:∀e∈cJ j,0<=e.2.num):fI j c=baL ((cJ j).flatMap tU++3::(lw (a+1)++4::lw c)):=by
 have d:fI j c=baL ((iA (cJ j)++([Qh .u8 3]++num8 (j.last+1) 8++([Qh .u8 4]++num8 c 8))).map toB):=rfl;rw[d,f];simp[An _ h];rfl
structure lx (st:St):Prop where
 nil:st.f []=[]
 uniq:∀k k' v v',v∈st.f k->v'∈st.f k'->v.num=v'.num->k=k'
 mark:∀k,∀v∈st.f k,v.mark=Y->v.body=⟨#[]⟩
theorem Ln:lx st0:=⟨Q,λ_ _ _ _ h=>by simp[st0]at h,λ_ _ h=>by simp[st0]at h⟩
theorem lx.Ms(h:lx j)(l:eV):lx (Ms j l):=⟨h.nil,h.uniq,h.mark⟩
theorem qq(d:Inv j s){k}{v}(c:v∈j.f k):1<=v.num/\v.num<=j.last:=by
 have⟨i,b,e⟩:=gM c;have:=d.bounds k i b;rw[gX b,e]at this;exact this
theorem lx.add(h:lx j)(p:Inv j s)(c a:dT)(b:lk)(t:aS c=Y)(hm:b=Y->a=⟨#[]⟩):lx (bM j c a b):=by
 have hks:=(kr t).1;have d:∀k v,v∈(bM j c a b).f k->v∈j.f k\/(k=c.data.toList/\v=⟨j.last+1,a,b⟩):=λk v l=>by
  simp[bM,upd]at l
  grind
 refine⟨?_,λk r v q l n e=>?_,λk v l o=>?_⟩
 .simp only[bM,upd];rw[eW λe=>?_]
  .exact h.nil
  .have:c.data.toList.length=0:=by rw[<-e];rfl
   have:c.size=0:=by simpa using this
   omega
 .rcases d k v l with i|⟨i,u⟩<;>rcases d r q n with m|⟨m,h4⟩
  .exact h.uniq k r v q i m e
  .have:=(qq p i).2
   grind
  .have:=(qq p m).2
   grind
  .rw [i,m]
 .rcases d k v l with i|⟨i,u⟩
  .exact h.mark k v i o
  .grind
theorem lx.drop(h:lx d)(c:dT)r:lx (bP d c r):=by
 have a:∀k v,v∈(bP d c r).f k->v∈d.f k:=λk v b=>by
  simp[bP,upd]at b
  grind
 refine⟨?_,λk j v i b e=>h.uniq k j v i (a k v b) (a j i e),λk v b=>h.mark k v (a k v b)⟩;refine List.eq_nil_iff_forall_not_mem.2 λv b=>?_
 have:=a [] v b;rw[h.nil]at this;simp at this
theorem lx.step{a}{s}(h:lx a)(b:Inv a s)o:lx (aE a o).1:=by
 unfold aE
 repeat' split
 all_goals first
  |exact h
  |exact h.add b _ _ _ (by simpa using ‹¬aS o.key=Z›) (by intro h;first|rfl|cases h)
  |exact h.drop _ _
theorem lx.put(h:lx j)(d:Inv j s)(b a:dT):lx (ky j b a).1:=by
 have:=h.step d ⟨1,b,a,⟨#[]⟩,⟨#[]⟩,0,0⟩
 rwa [j1 j ⟨1,b,a,⟨#[]⟩,⟨#[]⟩,0,0⟩ Q]at this
theorem lx.MA(h:lx j)(c:Inv j s)(a:dT):lx (MA j a).1:=by
 have:=h.step c ⟨4,a,⟨#[]⟩,⟨#[]⟩,⟨#[]⟩,0,0⟩
 rwa [iU j ⟨4,a,⟨#[]⟩,⟨#[]⟩,⟨#[]⟩,0,0⟩ Q]at this
theorem kg(i:eH j):o∈cJ j↔o.2∈j.f o.1.data.toList:=by
 rw[cJ,(j8 _).mem_iff,cU,Pi];constructor
 .rintro ⟨x,d,he⟩;obtain⟨k,h1,h2⟩:=iB _ _ _ x d
  grind
 .intro h;have b:o.1.data.toList.length<41:=by
   refine Qv λhn=>?_
   rw[i.long _ (by omega)]at h;simp at h
  refine⟨(o.1.data.toList,j.f o.1.data.toList),?_,PB.2 ⟨o.2,h,?_⟩⟩
  .have:=wA 41 j.f [] o.1.data.toList b (λc=>by rw[c]at h;simp at h);simpa[bL]using this
  .simp
theorem wB{c}(u:Inv c s)(G:lx c):(cJ c).Pairwise λa b=>a.2.num<b.2.num:=by
 letI:=IJ
 have q:(cJ c).Pairwise λa b=>a.2.num<=b.2.num:=by
  refine sq.2 λi j r m d=>?_
  have h:=(qk (cU (bL c.f []))).2 i j (QG _) d (by rw[<-fy];exact m);rw[ltE,decide_eq_false_iff_not]at h;have h':¬(cJ c).toArray[j]!.2.num<(cJ c).toArray[i]!.2.num:=h
  grind
 have n:(cJ c).Pairwise λa b=>a.2.num≠b.2.num:=by
  refine((j8 _).pairwise_iff (λh e=>h e.s)).2 ?_;rw[cU,List.pairwise_flatMap];refine⟨λx p=>?_,?_⟩
  .obtain ⟨k,-,o⟩:=iB _ _ _ x p;rw[PV,o];refine sq.2 λi j r m d=>?_
   have:=u.sorted _ i j d m;rw[gX r,gX m]at this
   grind
  .refine List.Pairwise.imp_of_mem (fun{x y} p A hxy a D b B e=>?_) (nT 41 c.f []);obtain⟨v,t,rfl⟩:=PB.1 D;obtain⟨z,l,rfl⟩:=PB.1 B;obtain⟨k,h1,o⟩:=iB _ _ _ x p;obtain⟨L,h3,F⟩:=iB _ _ _ y A;rw[o]at t;rw[F]at l;have:=G.uniq k L v z t l e
   grind
 exact(q.and n).imp λh=>by omega
theorem EB{b:St}(o:Inv b s)(l:eH b)(y:lx b)(d:H)(z:d<18446744073709551616):iC (fI b d)=J (b,(d:eV)):=by
 obtain⟨c,q⟩:∃n:H,b.last=n:=⟨b.last.toNat,by have:=o.MN;omega⟩;have hlS:=o.MQ;have r:∀e∈cJ b,1<=e.2.num/\e.2.num<=b.last:=λe h=>qq o ((kg l).1 h)
 have hlen:((cJ b).length:eV)=b.count:=by
  have L:fG (bL b.f [])=tot 41 b.f:=rfl;rw[cJ,fy,jH,L];exact l.cnt
 have hle:=l.le;have D:=wB o y;have hE:∀e∈cJ b,Ku e/\st0.last<e.2.num:=λe h=>by
  have p:=(kg l).1 h;have h2:=r e h;refine⟨⟨pt ⟨?_,(fY h).1⟩,l.body _ _ p,y.mark _ _ p,by omega⟩,by simp[st0];omega⟩;refine Nat.pos_of_ne_zero λG=>?_
  have:e.1.data.toList=[]:=List.eq_nil_of_length_eq_zero (by simpa using G);rw[this,y.nil]at p;simp at p
 have A:=H5 c d q λe h=>by have:=r e h;omega
 have u:(⟨((cJ b).foldl qB st0).f,((cJ b).foldl qB st0).count,(c:eV)⟩:St)=b:=by
  have F:((cJ b).foldl qB st0).f=b.f:=by
   funext k;rw[EA];refine qo (f:=λv:Ver=>v.num) ?_ ?_ λv=>?_
   .simp [st0]
    grind
   .refine sq.2 λi j P B t=>?_
    have:=o.sorted k i j t B
    rwa [gX P,gX B]at this
   .simp only[st0,List.nil_append,PB,List.mem_filter];constructor
    .rintro ⟨e,⟨h,x⟩,rfl⟩;have x:=kr x;rw[<-x];exact(kg l).1 h
    .intro V;exact⟨(⟨k.toArray⟩,v),⟨(kg l).2 (by simpa using V),by simp⟩,Q⟩
  have X:((cJ b).foldl qB st0).count=b.count:=by rw[qp];simp[st0];omega
  rw[F,X,<-q]
 have hL:fP ((fI b d).size+1) st0 0 (fI b d)=J (b,(d:eV)):=by
  have hsz:(cJ b).length+3<=(fI b d).size+1:=by
   have R:∀a:S (dT×Ver),a.length<=(a.flatMap tU).length:=λa=>by
    induction a with
    |nil=>simp
    |cons e a ih=>
     have:1<=(tU e).length:=by unfold tU;split<;>simp
     grind
   have:=R (cJ b);rw[A,iX]
   grind
  obtain⟨m,T⟩:∃m,(fI b d).size+1=m+3+(cJ b).length:=⟨(fI b d).size+1-3-(cJ b).length,by omega⟩;rw[T,A,rO 0 _ _ st0 (m+3) hE D (by simp[st0];omega),Ez _ 0 c d m ?_ (by omega) z,u];rw[<-q];exact rP b.last _ _ (by simp[st0];omega) λe h=>(r e h).2
 unfold iC;rw[hL];simp
theorem oN(n a:eV):eR n a≠⟨#[]⟩:=by
 intro h;have:=gI (λb=>b.data.size) h;simp[eR]at this
def sA:dT:=⟨#[97]⟩
def LsA.all(x:LsA):S ItD:=bV x.q (bL x.f x.q.p.data.toList)
theorem rQ(l:Lst)(p i:H)(b:l.size=p)(c:p<=20)(n:i<=1000):∀ (Mt:S ItD)(k:H),k+Mt.length<=2000->dV l ((i:eV)+1) k Mt=(Mt.take ((i+1)*p-k)).drop (i*p-k)
 | [],k,_=>by simp[dV]
 |x::r,k,h=>by
  have hb:(i+1)*p<=20020:=lT (QI (show i+1<=1001 by omega) c) (by omega);have e0:(i+1)*p=i*p+p:=by rw[Nat.add_mul,Nat.one_mul]
  have d:IntKind.i64.wrap (((i:eV)+1)*l.size)=((i+1)*p:H):=by
   rw[b,Qx _ (by rw[<-Qt,<-Qr,<-Qs];omega) (by rw[<-Qt,<-Qr,<-Qs];omega)];rw[Qs,Qr];rfl
  have m:IntKind.i64.wrap (IntKind.i64.wrap (((i:eV)+1)*l.size)-l.size)=(i*p:H):=by
   rw[d,b,Qx _ (by omega) (by omega)];omega
  simp only[lC]at h;have ih:=rQ l p i b c n r (k+1) (by omega);rw[dV,ih];have a:jA l ((i:eV)+1) ((k:eV)+1)=decide (i*p<=k/\k<(i+1)*p):=by
   unfold jA;rw[m,d,Bool.decide_and];congr 1
   .exact nF.2 (by omega)
   .exact nF.2 (by omega)
  rw[a];by_cases f:k<(i+1)*p
  .have j:(i+1)*p-k=((i+1)*p-(k+1))+1:=by omega
   rw[j,PT];by_cases e:i*p<=k
   .rw [pt ⟨e,f⟩,gL Q,show i*p-k=0 by omega,show i*p-(k+1)=0 by omega];rfl
   .rw [lj (λh=>e h.1),eW (by simp),show i*p-k=(i*p-(k+1))+1 by omega];rfl
  .rw [lj (λh=>f h.2),eW (by simp),show(i+1)*p-k=0 by omega,show(i+1)*p-(k+1)=0 by omega];simp
section
variable {x:LsA} {p i:Nat}
theorem LsA.NX(a:x.size=p)(b:p<=20)(c:i<=1000)(hl:x.all.length<=1000):x.Mz ((i:eV)+1)=(x.all.take ((i+1)*p)).drop (i*p):=
 rQ (x.MU N) p i a b c x.all 0 (by omega)
theorem LsA.N7(a:x.size=p)(b:p<=20)(hi:i<=1000):x.tok ((i:eV)+1)=if(i+1)*p<x.all.length then eR x.num ((i:eV)+2)else⟨#[]⟩:=by
 have hb:(i+1)*p<=20020:=lT (QI (show i+1<=1001 by omega) b) (by omega);have e1:IntKind.i64.wrap (((i:eV)+1)*x.size)=((i+1)*p:H):=by
  rw[a,Qx _ (by rw[<-Qt,<-Qr,<-Qs];omega) (by rw[<-Qt,<-Qr,<-Qs];omega)]
  grind
 have e2:IntKind.i64.wrap ((i:eV)+1+1)=(i:eV)+2:=by rw[Qx _ (by omega) (by omega)];omega
 show IG (x.MU N) _ x.all.length=_;show(if IntKind.i64.wrap (((i:eV)+1)*x.size)<(x.all.length:eV)then eR x.num (IntKind.i64.wrap ((i:eV)+1+1))else _)=_
 grind
end
theorem kj u(h:¬u<10):Qo u=Qo (u/10)++[Qi (48+u%10)]:=by rw[Qo,dif_neg h]
theorem IR u:Qo u≠[]:=by
 by_cases h:u<10
 .rw [Qn h];simp
 .rw [kj u h];simp
theorem EC(ha:a<10)(hb:k<10)(h:Qi (48+a)=Qi (48+k)):a=k:=by
 have:=gI Qk h;simp at this;omega
theorem ED:∀u v:H,Qo u=Qo v->u=v:=λu=>by
 induction u using QH with
 |ind u ih=>
  intro v h;by_cases b:u<10<;>by_cases a:v<10
  .rw [Qn b,Qn a]at h;exact EC b a (Qq h).1
  .rw [Qn b,kj v a]at h;have:=gI PK h;have c:=vf.2 (IR (v/10));simp only[lP,lS]at this;omega
  .rw [Qn a,kj u b]at h;have:=gI PK h;have c:=vf.2 (IR (u/10));simp only[lP,lS]at this;omega
  .rw [kj u b,kj v a]at h;have⟨d,c⟩:=List.append_inj' h Q;have e1:=ih (u/10) (by omega) _ d;have e2:=EC (by omega) (by omega) (Qq c).1;omega
theorem EF:∀u:H,∀x∈Qo u,x≠46:=λu=>by
 induction u using QH with
 |ind u ih=>
  have d:∀a,a<10->Qi (48+a)≠46:=λa ha e=>by
   have:=gI Qk e;simp at this;have h46:(46:ey).toNat=46:=rfl;omega
  intro x b;by_cases c:u<10
  .rw [Qn c,xb]at b;subst b;exact d u c
  .rw [kj u c,tb,xb]at b;rcases b with b|rfl
   .exact ih (u/10) (by omega) x b
   .exact d _ (by omega)
theorem EG:∀ (a c b d:S ey),(∀x∈a,x≠46)->(∀x∈c,x≠46)->a++46::b=c++46::d->a=c/\b=d
 | [],[],b,d,_,_,h=>⟨Q,(Qq h).2⟩
 | [],y::c,b,d,_,hc,h=>g6 (Qq h).1.s (hc y (by simp))
 |x::a,[],b,d,ha,_,h=>g6 (Qq h).1 (ha x (by simp))
 |x::a,y::c,b,d,ha,hc,h=>by
  have⟨f,j⟩:=Qq h;have⟨i,k⟩:=EG a c b d (λz e=>ha z (by simp[e])) (λz e=>hc z (by simp[e])) j;exact⟨by rw[f,i],k⟩
theorem wC(h:eR a k=eR B s):a=B/\k=s:=by
 unfold eR at h;have e:=gI (λk:dT=>k.data.toList) h;obtain⟨f,i⟩:=EG _ _ _ _ (EF a) (EF B) e;exact⟨ED _ _ f,ED _ _ i⟩
structure PlL where
 Mt:S ItD
 v:Wx
 Mz:H
 fin:eV
 gone:lk
structure PlT where
 text:dT
 ls:H
 pg:H
def PlL.Mw(tm:eV)(l:PlL):lk:=!l.gone&&decide (tm<l.fin)
def opens(tm:eV)(P:S PlL):S (PlL×H):=P.zipIdx.filter λz=>z.1.Mw tm
def LsA.key(x:LsA):eV×eV×S ItD×eV:=(x.num,x.left,x.all,x.size)
def BY(tm:eV)(z:PlL×H):eV×eV×S ItD×eV:=((z.2:eV)+1,z.1.fin-tm,z.1.Mt,z.1.Mz)
structure eY (L:Lg)(P:S PlL)(T:S PlT)(tm:eV)(s:H):Prop where
 time:L.tm=tm/\0<=tm/\tm<=1000*s
 begun:L.begun=P.length
 OI:P.length<=s/\T.length<=s
 opened:L.opened.map LsA.key=(opens tm P).map (BY tm)
 lists:∀l∈P,1<=l.Mz/\l.Mz<=20/\l.Mt.length<=200/\l.fin<=1000*s+10/\0<=l.fin
 Mq:∀t∈T,t.text=eR ((t.ls+1:H):eV) ((t.pg+1:H):eV)/\∃l,P[t.ls]?=J l/\t.pg*l.Mz<l.Mt.length
 told:∀k n pg,ee k L.told=J (n,pg)->∃t∈T,t.text=k/\n=(t.ls:eV)+1/\pg=(t.pg:eV)+1
 here:∀t∈T,ee t.text L.told≠N
theorem BZ(a:eV)(P:S PlL)(l:PlL):opens a (P++[l])=opens a P++if l.Mw a then[(l,P.length)]else[]:=by
 unfold opens
 grind
theorem wD(a:eV)P:(opens a P).length=(P.filter (PlL.Mw a)).length:=by
 have e:P.filter (PlL.Mw a)=(opens a P).map (·.1):=by
  conv=>lhs;rw[<-List.zipIdx_map_fst 0 P]
  rw[List.filter_map];rfl
 grind
theorem eY.count{P}{T}(h:eY L P T tm s):(opens tm P).length=L.opened.length:=by
 have:=gI PK h.opened
 grind
theorem eY.m{P}{T}{a:eV}{s'}(h:eY L P T a s)(hs:s<=s'):eY L P T a s':=
 ⟨⟨h.time.1,h.time.2.1,by have:=h.time.2.2;omega⟩,h.begun,⟨by have:=h.OI;omega,by have:=h.OI;omega⟩,h.opened,λl b=>by have:=h.lists l b;omega,h.Mq,h.told,h.here⟩
theorem L0:eY ⟨[],0,[],0⟩ [] [] 0 0:=⟨by simp,Q,by simp,Q,by simp,by simp,by simp[ee],by simp⟩
theorem eY.token{P}{T}(h:eY L P T tm s)b a:∀t∈T,(t.ls=b/\t.pg=a)↔t.text=eR ((b+1:H):eV) ((a+1:H):eV):=λt c=>by
 rw[(h.Mq t c).1];constructor
 .rintro ⟨rfl,rfl⟩;rfl
 .intro e;have⟨h1,h2⟩:=wC e;omega
theorem B3 L(f:S ey->S Ver)q(n:eV)Mt(a:bV q (bL f q.p.data.toList)=Mt)(c:Mt.length<=1000):
  ((n<1\/20<n)/\fw L f q n=(L,[],⟨#[]⟩,7))\/∃p:H,n=(p:eV)/\1<=p/\p<=20/\((Mt.length<=p/\fw L f q n=(L,Mt,⟨#[]⟩,0))\/(p<Mt.length/\3<=L.opened.length/\fw L f q n=(L,[],⟨#[]⟩,8)) \/
   (p<Mt.length/\L.opened.length<3/\fw L f q n=(⟨L.opened++[iW L f q n],L.begun+1,lE (eR (L.begun+1) 2) (L.begun+1,2) L.told,L.tm⟩,Mt.take p,eR (L.begun+1) 2,0))):=by
 by_cases h:n<1\/20<n
 .exact Qc ⟨h,by rw[fw,gL h]⟩
 .right
  refine⟨n.toNat,by omega,by omega,by omega,?_⟩;obtain⟨p,hp⟩:∃p:H,n.toNat=p:=⟨_,Q⟩;have e:(iW L f q n).size=(p:eV):=by show n=(p:eV);omega
  have j:(iW L f q n).all=Mt:=a;have b:=LsA.N7 (x:=iW L f q n) (p:=p) (i:=0) e (by omega) (by omega);have d:=LsA.NX (x:=iW L f q n) (p:=p) (i:=0) e (by omega) (by omega) (by rw[j];exact c);rw[j]at b d;simp at b d;have hn:(iW L f q n).num=L.begun+1:=rfl;rw[fw,eW h];by_cases k:Mt.length<=p
  .rw [eW (show¬p<Mt.length by omega)]at b;rw[tO k]at d
   grind
  .rw [gL (show p<Mt.length by omega)]at b;rw[b,eW (oN _ _),d]
   grind
theorem eY.push{P}{T}(h:eY L P T c s)(f:S ey->S Ver)q p Mt v(b:bV q (bL f q.p.data.toList)=Mt)(hlen:Mt.length<=200)(hp:1<=p/\p<=20)(hpl:p<Mt.length):
  eY ⟨L.opened++[iW L f q p],L.begun+1,lE (eR (L.begun+1) 2) (L.begun+1,2) L.told,L.tm⟩ (P++[⟨Mt,v,p,c+10,Z⟩]) (T++[⟨eR (L.begun+1) 2,P.length,1⟩]) c (s+1):=by
 have hb:=h.begun;have i:=h.time;have hf:=h.OI;refine⟨⟨i.1,i.2.1,by omega⟩,by rw[lP];simp;omega,by rw[lP,lP];simp;omega,?_,λl d=>?_,λt a=>?_,λk n j e=>?_,λt a=>?_⟩
 .have m:PlL.Mw c ⟨Mt,v,p,c+10,Z⟩=true:=by simp[PlL.Mw];omega
  rw[BZ,gL m,xc,xc,h.opened];simp[LsA.key,BY,iW,LsA.all,b];omega
 .rcases tb.1 d with d|d
  .have:=h.lists l d;omega
  .grind
 .rcases tb.1 a with a|a
  .have ⟨r,l,o,h3⟩:=h.Mq t a
   grind
  .simp_all
 .simp [fZ]at e;split at e
  .simp_all
  .have ⟨t,r,o⟩:=h.told k n j e
   grind
 .simp [fZ];split
  .simp
  .rename_i e1;rcases tb.1 a with a|a
   .exact h.here t a
   .grind
end
section
open Go.RowKit
def eI(a b:ItD):Prop:=txt a<txt b\/(txt a=txt b/\((a.kind≠2/\b.kind=2)\/((a.kind=2↔b.kind=2)/\b.MG<a.MG)))
theorem qr{a b c}(d:eI a b)(e:eI b c):eI a c:=by
 rcases d with d|⟨h,d⟩<;>rcases e with e|⟨f,e⟩
 .exact Qc (PZ d e)
 .exact Qc (f▸d)
 .exact Qc (h▸e)
 .exact Qd ⟨h.t f,by omega⟩
theorem yK{e h}(c:eI e h)(d:eI h e):False:=by
 rcases c with c|⟨e1,c⟩<;>rcases d with d|⟨e2,d⟩
 .grind
 .grind
 .grind
 .omega
theorem EH{j:Type}{r:j->j->Prop}(f:∀a b,r a b->r b a->False):∀ (l m:S j),l.Pairwise r->m.Pairwise r->(∀x,x∈l↔x∈m)->l=m
 | [],[],_,_,_=>rfl
 | [],b::_,_,_,h=>g6 ((h b).2 (by simp)) (by simp)
 |a::_,[],_,_,h=>g6 ((h a).1 (by simp)) (by simp)
 |a::l,b::m,h1,h2,h=>by
  have⟨k,p⟩:=vx.1 h1;have⟨i,o⟩:=vx.1 h2;have e:a=b:=by
   rcases tn.1 ((h a).1 (by simp))with e|e
   .exact e
   .rcases tn.1 ((h b).2 (by simp))with n|n
    .exact n.s
    .exact (f _ _ (i a e) (k b n)).elim
  subst e;have d:∀x,(x∈l->x≠a)/\(x∈m->x≠a):=λx=>⟨λc e=>by subst e;exact f _ _ (k _ c) (k _ c),λc e=>by subst e;exact f _ _ (i _ c) (i _ c)⟩
  refine gI _ (EH f l m p o λx=>⟨λc=>?_,λc=>?_⟩)
  .exact ((tn.1 ((h x).1 (by simp[c]))).resolve_left ((d x).1 c))
  .exact ((tn.1 ((h x).2 (by simp[c]))).resolve_left ((d x).2 c))
def ov(a b:ItD):lk:=if a.text=b.text then(if decide (a.kind=2)=decide (b.kind=2)then decide (b.MG<a.MG)else decide (b.kind=2))else decide (txt a<txt b)
theorem Ky{e b}(h:txt e=txt b):e.text=b.text:=by
 unfold txt at h;cases ha:e.text
 simp_all
theorem wE a b:ov a b=Y↔eI a b:=by
 unfold ov eI;by_cases h:a.text=b.text
 .have e:txt a=txt b:=by unfold txt;rw[h]
  grind
 .have e:txt a≠txt b:=λe=>h (Ky e)
  grind
def atN(x:ItD)(l:S ItD):H->H
 | 0=>0
 |i+1=>match l[i]? with
  |some y=>if ov y x then i+1 else atN x l i
  |none=>atN x l i
theorem IS x l:∀i,atN x l i<=i
 | 0=>lR _
 |i+1=>by
  unfold atN;have:=IS x l i;split
  .split<;>omega
  .omega
theorem EI(x:ItD)(l:S ItD)(b:l.Pairwise eI):∀i,i<=l.length->∀j (h:j<l.length),j<atN x l i->eI l[j] x
 | 0,_,j,_,hj=>g6 hj (by simp[atN])
 |i+1,hi,j,h,hj=>by
  unfold atN at hj;rw[eL (by omega)]at hj;simp only at hj;split at hj
  .rename_i c;have a:=(wE _ _).1 c;by_cases e:j=i
   .subst e;exact a
   .exact qr (sq.1 b j i h (by omega) (by omega)) a
  .exact EI x l b i (by omega) j h hj
theorem Ao(x:ItD)(l:S ItD):∀i,i<=l.length->∀j (h:j<l.length),atN x l i<=j->j<i->¬eI l[j] x
 | 0,_,_,_,_,hj=>g6 hj (by simp)
 |i+1,hi,j,h,h1,hj=>by
  unfold atN at h1;rw[eL (by omega)]at h1;simp only at h1;split at h1
  .omega
  .rename_i a;by_cases e:j=i
   .subst e;exactλb=>a ((wE _ _).2 b)
   .exact Ao x l i (by omega) j h h1 (by omega)
def FF(a b:ItD):lk:=decide (a.kind=b.kind)&&decide (a.text=b.text)&&decide (a.MG=b.MG)
theorem tV a b:FF a b=Y↔a=b:=by
 cases a;cases b;simp[FF,and_assoc]
def bh(l:S ItD)(x:ItD):S ItD:=if l.any (FF · x)then l else l.take (atN x l l.length)++x::l.drop (atN x l l.length)
theorem yL l x y:y∈bh l x↔y=x\/y∈l:=by
 unfold bh;split
 .rename_i h;have⟨z,hz,e⟩:=PW.1 h;rw[tV]at e
  grind
 .have:y∈l↔y∈l.take (atN x l l.length)\/y∈l.drop (atN x l l.length):=by rw[<-tb,xv]
  grind
theorem EJ l x(i:l.Pairwise eI)(ht:∀y∈l,y=x\/eI y x\/eI x y):(bh l x).Pairwise eI:=by
 unfold bh;split
 .exact i
 .rename_i h;have hne:=λy f e=>h (PW.2 ⟨y,f,(tV _ _).2 e⟩)
  have d:=i;rw[<-xv (atN x l l.length) l]at d;have⟨m,n,h3⟩:=ta.1 d;have hlow:∀y∈l.take (atN x l l.length),eI y x:=λy f=>by
   obtain⟨j,k,rfl⟩:=gM f;rw[tL]at k;rw[List.getElem_take];exact EI x l i _ (lR _) j (by omega) (by omega)
  have c:∀y∈l.drop (atN x l l.length),eI x y:=λy f=>by
   obtain⟨j,k,rfl⟩:=gM f;rw[lD]at k;have hn:=Ao x l _ (lR _) (atN x l l.length+j) (by omega) (by omega) (by omega)
   grind
  refine ta.2 ⟨m,vx.2 ⟨c,n⟩,λa ha b hb=>?_⟩
  grind
def OfK(q:Qy)(k:S ey)(h:S Ver)(x:ItD):Prop:=
 iT q k h=Y/\((aV q k=N/\x∈bF q.vs k h)\/∃c,aV q k=J c/\x=⟨2,⟨c.toArray⟩,0⟩)
theorem np{d}{h}{x}(a:x∈bF T d h):txt x=d/\x.kind≠2:=by
 unfold bF at a;split at a
 .obtain ⟨v,-,rfl⟩:=PB.1 a;refine⟨Q,?_⟩;show(if v.mark then(4:eV)else 3)≠2
  grind
 .rw [xb]at a;subst a;exact⟨Q,show(1:eV)≠2 by decide⟩
theorem EK(e:lk)k h(d:h.Pairwise λa b=>a.num<b.num):(bF e k h).Pairwise eI:=by
 unfold bF;split
 .rw [PV,List.pairwise_reverse];refine d.imp fun{a b} c=>Qd ⟨Q,Qd ⟨?_,c⟩⟩
  show(if b.mark then(4:eV)else 3)=2↔(if a.mark then(4:eV)else 3)=2
  grind
 .grind
theorem yM{q}{k c}(h:aV q k=J c):c≠[]:=by
 unfold aV at h;split at h
 .cases h
 .rename_i f;cases b:dK q.d.data.toList (k.drop q.p.size)with
  |none=>rw[b]at h;cases h
  |some i=>
   rw[b]at h;have a:=jJ (d:=q.d.data.toList) (λe=>f (by rw[QD,<-lY,e];rfl)) _ i b;have j:q.d.data.toList.length=q.d.size:=lY;rw[j,lD]at a;simp at h;subst h;intro e;have:=gI PK e;rw[tL,lN]at this;omega
def Lo(q:Qy)(pre:KVs)(st:S ItD×S ey):Prop:=
 ∀x,st.1.getLast?=J x->∃kh∈pre,(aV q kh.1=N/\txt x=kh.1)\/(∃c,aV q kh.1=J c/\txt x=c/\st.2=c)
theorem Ap{Mt m:S ItD}(c:Mt.Pairwise eI)(i:m.Pairwise eI)(h:∀x,Mt.getLast?=J x->∀y∈m,eI x y):(Mt++m).Pairwise eI:=by
 refine ta.2 ⟨c,i,λa d b j=>?_⟩;rcases PO Mt with rfl|⟨r,z,rfl⟩
 .simp at d
 rw[PP]at d c h;have f:=h z (by simp) b j;rcases tb.1 d with e|e
 .exact qr ((ta.1 c).2.2 a e z (by simp)) f
 .grind
theorem EL q:∀ (n:H)(f:KVs),f.length=n->f.Pairwise (λa b=>a.1<b.1)->(∀j∈f,j.2.Pairwise λa b=>a.num<b.num)->(aL q f).1.Pairwise eI/\Lo q f (aL q f):=by
 intro n;induction n with
 |zero=>
  intro f m _ _;have:=PN.1 m;subst this;exact⟨List.Pairwise.nil,λx h=>by simp[aL]at h⟩
 |succ n ih=>
  intro f m R F;rcases PO f with rfl|⟨L,j,rfl⟩
  .simp at m
  rw[PP]at m R F ⊢;obtain⟨h1,-,X⟩:=ta.1 R;have k:=λx d=>X x d j (by simp)
  have⟨t,v⟩:=ih L (by simp at m;exact m) h1 (λx d=>F x (by simp[d]));rw[nO];generalize aL q L=T at t v;have i:Lo q (L++[j]) T:=λx d=>by
   have⟨y,o,h⟩:=v x d
   grind
  unfold cx;by_cases P:iT q j.1 j.2=Y
  .rw [gL P];cases p:aV q j.1 with
   |none=>
    simp only;refine⟨Ap t (EK _ _ _ (F j (by simp))) λx d z A=>?_,λx d=>?_⟩
    .refine Qc ?_;rw[(np A).1];have⟨y,o,h⟩:=v x d;rcases h with⟨-,e⟩|⟨c,l,e,-⟩
     .rw [e];exact k y o
     .rw [e];exact IQ (ke l) (k y o)
    .rw [List.getLast?_append]at d;cases B:(bF q.vs j.1 j.2).getLast? with
     |none=>
      rw[B]at d;simp at d;exact i x d
     |some z=>
      rw[B]at d;simp at d;subst d;exact⟨j,by simp,Qc ⟨p,(np (List.mem_of_getLast? B)).1⟩⟩
   |some c=>
    by_cases G:c=T.2
    .simp [gL G];exact⟨t,i⟩
    .simp [eW G];refine⟨Ap t (NE _ _) λx d z A=>?_,λx d=>?_⟩
     .rw [xb]at A;subst A;refine Qc ?_;show txt x<c;have⟨y,o,h⟩:=v x d;refine Qv λu=>?_
      rcases h with⟨V,e⟩|⟨c',l,e,e2⟩
      .rw [e]at u;have:=rM p (lu c j.1 y.1 (ke p) u (k y o));rw[V]at this;cases this
      .rw [e]at u;have D:=λr=>u (IQ (ke l) r)
       have:=rM p (lu c j.1 y.1 (ke p) D (k y o));rw[l]at this;cases this;exact G e2.s
     .simp at d;subst d;exact⟨j,by simp,Qd ⟨c,p,Q,Q⟩⟩
  .rw [eW P];exact⟨t,i⟩
theorem wF q:∀ (l:KVs)(s:S ItD×S ey),(s.2=[]\/⟨2,⟨s.2.toArray⟩,0⟩∈s.1)->∀x,x∈(l.foldl (cx q) s).1↔x∈s.1\/∃kh∈l,OfK q kh.1 kh.2 x
 | [],s,_,x=>by simp
 |kh::l,s,hs,x=>by
  rw[uc];have a:(((cx q s kh).2=[]\/⟨2,⟨(cx q s kh).2.toArray⟩,0⟩∈(cx q s kh).1))/\(x∈(cx q s kh).1↔x∈s.1\/OfK q kh.1 kh.2 x):=by
   unfold cx OfK;by_cases b:iT q kh.1 kh.2=Y
   .rw [gL b];cases j:aV q kh.1 with
    |none=>
     refine⟨hs.imp id λh=>PR _ h,?_⟩;simp[b]
    |some c=>
     by_cases d:c=s.2
     .simp only[gL d];refine⟨hs,?_⟩;have i:=yM j;have f:=hs.resolve_left (λe=>i (d.t e));subst d;constructor
      .exact Qc
      .rintro (h|⟨-,h|⟨c',e,rfl⟩⟩)
       .exact h
       .cases h.1
       .cases e;exact f
     .simp only[eW d];refine⟨Qd (by simp),?_⟩;simp[b]
   .rw [eW b];exact⟨hs,by simp[b]⟩
  rw[wF q l _ a.1 x,a.2];simp only[tn,n8,or_assoc]
theorem yN q(l:KVs)x:x∈bV q l↔∃kh∈l,OfK q kh.1 kh.2 x:=by
 unfold bV aL;rw[wF q l _ (Qc Q) x];simp
def eT(q:Qy)(l:S ItD)(kh:S ey×S Ver):S ItD:=
 if q.p.data.toList.isPrefixOf kh.1&&iT q kh.1 kh.2 then
  match aV q kh.1 with
  |some c=>bh l ⟨2,⟨c.toArray⟩,0⟩
  |none=>(bF q.vs kh.1 kh.2).reverse.foldl bh l
 else l
def fQ(q:Qy)(R:KVs):S ItD:=R.foldl (eT q) []
def Tot(P:ItD->Prop):Prop:=∀x y,P x->P y->x=y\/eI x y\/eI y x
theorem EM{P:ItD->Prop}(b:Tot P):∀ (m l:S ItD),l.Pairwise eI->(∀x∈l,P x)->(∀x∈m,P x)->(m.foldl bh l).Pairwise eI/\∀x,x∈m.foldl bh l↔x∈l\/x∈m
 | [],l,h,_,_=>⟨h,λx=>by simp⟩
 |y::m,l,h,hl,hm=>by
  have c:=hm y (by simp);have⟨d,f⟩:=EM b m (bh l y) (EJ l y h λz i=>b z y (hl z i) c) (λx a=>((yL l y x).1 a).elim (λe=>e▸c) (hl x)) (λx a=>hm x (by simp[a]));refine⟨d,λx=>?_⟩;rw[uc,f x,yL,tn];constructor
  .rintro ((h|h)|h)
   .exact Qd (Qc h)
   .exact Qc h
   .exact Qd (Qd h)
  .rintro (h|h|h)
   .exact Qc (Qd h)
   .exact Qc (Qc h)
   .exact Qd h
theorem EN{P:ItD->Prop}(f:Tot P)q a l(h:l.Pairwise eI)(i:∀x∈l,P x)(b:q.p.data.toList <+:a.1->∀x,OfK q a.1 a.2 x->P x):
  (eT q l a).Pairwise eI/\∀x,x∈eT q l a↔x∈l\/(q.p.data.toList <+:a.1/\OfK q a.1 a.2 x):=by
 unfold eT;unfold OfK at b ⊢;by_cases d:(q.p.data.toList.isPrefixOf a.1&&iT q a.1 a.2)=Y
 .rw [gL d];rw[bT,wd]at d;replace b:=b d.1;cases j:aV q a.1 with
  |none=>
   rw[j]at b;have⟨h1,h2⟩:=EM f (bF q.vs a.1 a.2).reverse l h i (λx e=>b x ⟨d.2,Qc ⟨Q,List.mem_reverse.1 e⟩⟩)
   grind
  |some c=>
   rw[j]at b;have e:=b _ ⟨d.2,Qd ⟨c,Q,Q⟩⟩;refine⟨EJ l _ h λz k=>f z _ (i z k) e,λx=>?_⟩;rw[yL]
   grind
 .grind
theorem EO{P:ItD->Prop}(a:Tot P)q:∀ (R:KVs)(l:S ItD),l.Pairwise eI->(∀x∈l,P x)->(∀kh∈R,q.p.data.toList <+:kh.1->∀x,OfK q kh.1 kh.2 x->P x) ->
  (R.foldl (eT q) l).Pairwise eI/\∀x,x∈R.foldl (eT q) l↔x∈l\/∃kh∈R,q.p.data.toList <+:kh.1/\OfK q kh.1 kh.2 x
 | [],l,h,_,_=>⟨h,λx=>by simp⟩
 |kh::R,l,h,hl,hR=>by
  have⟨c,b⟩:=EN a q kh l h hl (hR kh (by simp));have⟨d,f⟩:=EO a q R (eT q l kh) c (λx j=>((b x).1 j).elim (hl x) λe=>hR kh (by simp) e.1 x e.2) (λy i=>hR y (by simp[i]));refine⟨d,λx=>?_⟩;rw[uc,f x,b x];simp only[tn,n8,or_assoc]
def InF(q:Qy)(f:S ey->S Ver)(x:ItD):Prop:=∃k,f k≠[]/\OfK q k (f k) x
theorem Kz q(f:S ey->S Ver)(u:∀k,(f k).Pairwise λa b=>a.num<b.num):Tot (InF q f):=λx y ⟨k,_,m⟩ ⟨z,_,l⟩=>by
 by_cases e:txt x<txt y
 .exact Qd (Qc (Qc e))
 by_cases d:txt y<txt x
 .exact Qd (Qd (Qc d))
 have n:=List.le_antisymm (List.not_lt.1 d) (List.not_lt.1 e);obtain⟨-,m|⟨c,-,rfl⟩⟩:=m<;>obtain⟨-,l|⟨c',-,rfl⟩⟩:=l
 .have t:=np m.2;have v:=np l.2;have:k=z:=by rw[<-t.1,<-v.1,n]
  subst this;have p:=EK q.vs k (f k) (u k);obtain⟨i,r,rfl⟩:=gM m.2;obtain⟨j,o,rfl⟩:=gM l.2;rcases Nat.lt_trichotomy i j with h|h|h
  .exact Qd (Qc (sq.1 p i j r o h))
  .subst h;exact Qc Q
  .exact Qd (Qd (sq.1 p j i o r h))
 .exact Qd (Qc (Qd ⟨n,Qc ⟨(np m.2).2,Q⟩⟩))
 .exact Qd (Qd (Qd ⟨n.s,Qc ⟨(np l.2).2,Q⟩⟩))
 .have:=n;subst this;exact Qc Q
theorem EP(f:S ey->S Ver)p k(b:k.length<=40)(a:p <+:k)(c:f k≠[]):(k,f k)∈bL f p:=by
 obtain⟨r,rfl⟩:=a;rw[lP]at b;exact wA (41-p.length) (λk=>f (p++k)) p r (by omega) c
theorem wG(f:S ey->S Ver)p x(b:x∈bL f p):p <+:x.1/\x.2=f x.1/\x.2≠[]:=by
 obtain⟨k,a,c⟩:=iB _ _ _ x b;exact⟨⟨k,a.s⟩,by rw[c,a],fg _ _ _ x b⟩
theorem yO q(f:S ey->S Ver)(R:KVs)(m:∀k,(f k).Pairwise λa b=>a.num<b.num)(i:∀k,f k≠[]->k.length<=40)
  (j:∀d∈R,d.2=f d.1/\f d.1≠[]) (hall:∀k,f k≠[]->(k,f k)∈R):fQ q R=bV q (bL f q.p.data.toList):=by
 obtain⟨o,n⟩:=EO (Kz q f m) q R [] List.Pairwise.nil (λx l=>by simp at l) (λd c _ x l=>⟨d.1,(j d c).2,(j d c).1▸l⟩);refine EH (λ_ _=>yK) _ _ o (EL q _ _ Q (ww f _) λd c=>(wG f _ d c).2.1▸m _).1 λx=>?_
 have e:=yN q (bL f q.p.data.toList) x;refine(n x).t (Iff.t ?_ e.s);constructor
 .rintro (h|⟨d,c,u,h⟩)
  .simp at h
  .have ⟨v,r⟩:=j d c;exact⟨(d.1,f d.1),EP f _ d.1 (i _ r) u r,v▸h⟩
 .rintro ⟨d,c,h⟩;obtain⟨o,n,h3⟩:=wG f _ d c
  grind
theorem fk(c:eV)w:Calls Yq.prog 30 #[I K c] w λe a=>e=Nm (aG ⟨c,0,⟨#[]⟩⟩)/\Below w.heap.size w a:=by
 go_enter (Yq.nq func30),ntmps30;go_wp2;exact Qz (v:=aG ⟨c,0,⟨#[]⟩⟩) (by simp[aG,results,results30,go_sem]) Q ⟨Q,(bR _ _).alloc (lR _) _⟩
def gC(x:Cu)(a:jp Addr)(c:H):Wx:=Qa #[I K x.code,I K x.MG,U x.body,M a 0 c,U ⟨#[]⟩]
theorem em(x:Cu)(a:jp Addr)c w:Calls Yq.prog 26 #[gC x a c,aG x] w λe b=>e=Nm (C Y)/\Below w.heap.size w b:=by
 unfold aG gC;go_enter (Yq.nq func26),ntmps26;go_wp2;go_ret;exact⟨Q,((bR _ _).alloc (lR _) _).alloc (by simp) _⟩
structure bg where
 key:dT
 h:S Ver
 v:Wx
def aB(R:S bg):S Wx:=R.flatMap λe=>[U e.key,e.v]
theorem jK R:(aB R).length=R.length*2:=eN 2 _ (λ_=>Q) R
structure aA (B:H)(w:Wj)(k:H)(sl:Wx)(R:S bg)(nx tm:eV):Prop where
 cells:aY w k sl (I K nx) (I K tm)
 row:w.ownsRow B 140 2 sl R.length (aB R)
 MC:∀e∈R,w.ownsRow B 130 3 e.v e.h.length (aw e.h)
 apart:sl.ownBlock≠J k
 MD:∀e∈R,e.v.ownBlock≠J k
 MF:∀e∈R,e.v.ownBlock≠sl.ownBlock
 pw:R.Pairwise (λa b=>a.v.ownBlock≠b.v.ownBlock)
theorem aA.Od{c:Wx}{R:S bg}{e:eV}(h:aA B w k c R tm e)(i:H)(b:i<R.length):
  ∃g a,c=M (J ⟨g,0,N⟩) R.length a/\B<=g/\g<w.heap.size/\w.cell? ⟨g,i*2,N⟩=J (U R[i].key)/\w.cell? ⟨g,i*2+1,N⟩=J R[i].v:=by
 obtain⟨g,a,rfl,d,f,h3⟩:=cq h.row (by omega);refine⟨g,a,Q,d,f,?_,?_⟩
 .have:=h.row.cellAt (i*2+0) (by omega);rw[aB,bE 2 _ (λ_=>Q) R i 0 b (by omega)]at this
  grind
 .have:=h.row.cellAt (i*2+1) (by omega);rw[aB,bE 2 _ (λ_=>Q) R i 1 b (by omega)]at this
  grind
theorem wH(a:dT):(a.toList==a.toList)=true:=by simp
theorem wI{n m:dT}(h:n≠m):(n.toList==m.toList)=false:=by
 rw[ByteArray.toList_eq,ByteArray.toList_eq];have:n.data.toList≠m.data.toList:=λe=>h (by cases n;cases m;simp;exact Qu.1 e)
 grind
def wJ(R:S bg)(key:dT)(w:Wj)(e:Ending)(w':Wj):Prop:=
 w=w'/\((∃ (i:H) (h:i<R.length),R[i].key=key/\e=Nm (I K i))\/((∀x∈R,x.key≠key)/\e=Nm (I K (-1))))
theorem jL B k z R(t q:eV)(b:dT)w(a:aA B w k z R t q)(hn:R.length<=1000):
  Calls Yq.prog 82 #[O (J ⟨k,0,N⟩),U b] w (wJ R b w):=by
 obtain⟨u,y,rfl,-⟩:=az a.row;have c0:=a.cells.c0;have HH:Hid (aA B w k (M u R.length y) R t q):=a;clear a;unfold wJ;go_enter (Yq.nq func82),ntmps82;go_wp2_with fail
 go_loopw [5] (λs4 wr=>∃i:H,i<=R.length/\s4=I K i/\(∀j (h:j<R.length),j<i->R[j].key≠b)/\wr=w) (λs4 _=>R.length-(intOf s4).toNat)
 case atStart=>exact⟨0,QG _,Q,λj h e=>g6 e (by omega),Q⟩
 case round=>
  obtain⟨i,hin,rfl,f,rfl⟩:=hrel;have l:Hid (∀j (h:j<R.length),j<i->R[j].key≠b):=f;clear f;by_cases c:i<R.length
  .skip
   obtain⟨g,cap,A,-,-,n,r⟩:=HH.o.Od i c;cases A;have hii:(i:eV)<(R.length:eV):=by omega
   by_cases d:R[i].key=b
   .have HE:Hid (R[i].key=b):=d;rw[d]at n;clear d r;have p:=wH b;go_wp2_with fail
    go_ret;exact⟨Q,Qm ⟨i,c,HE.o,Q⟩⟩
   .have HE:Hid (R[i].key≠b):=d;have p:=wI d;generalize R[i].key=kk at n p;clear r d;go_wp2_with fail
    refine⟨⟨i+1,c,by go_num,λj e hji=>?_,trivial⟩,by simp[intOf];omega⟩;rcases Nat.lt_or_ge j i with s|s
    .exact l.o j e s
    .have:j=i:=by omega
     subst this;exact HE.o
  .have m:i=R.length:=by omega
   subst m;go_wp2;go_ret;refine⟨Q,Ql ⟨λx v=>?_,Q⟩⟩;obtain⟨j,e,rfl⟩:=gM v;exact l.o j e e
def totR(R:S bg):Nat:=(R.map (·.h.length)).sum
theorem wK(R:S bg)(i:H)(h:i<R.length):totR (R.take (i+1))=totR (R.take i)+R[i].h.length:=by
 unfold totR;rw[tS h,xc,PX];simp
theorem nt R i:totR R=totR (R.take i)+totR (R.drop i):=by
 unfold totR
 conv=>lhs;rw[<-xv i R]
 grind
theorem gB R(h:∀e∈R,e.h≠[]):R.length<=totR R:=by
 induction R with
 |nil=>simp[totR]
 |cons a r ih=>
  have h1:=ih (λe b=>h e (List.mem_cons_of_mem _ b));have h2:=vf.2 (h a (List.mem_cons_self ..));simp[totR]at *;omega
theorem nu B k s R(p n:eV)w(a:aA B w k s R p n)(hlt:R.length<=totR R)(hn:totR R<=1000):
  Calls Yq.prog 63 #[O (J ⟨k,0,N⟩)] w λe u=>e=Nm (I K (totR R:eV))/\w=u:=by
 obtain⟨x,r,rfl,-⟩:=az a.row;have c0:=a.cells.c0;have HH:Hid (aA B w k (M x R.length r) R p n):=a;go_enter (Yq.nq func63),ntmps63;go_wp2_with fail
 go_loopw [3,4] (λs3 s4 wr=>∃i:H,i<=R.length/\s3=I K (totR (R.take i):eV)/\s4=I K i/\wr=w) (λ_ s4 _=>R.length-(intOf s4).toNat)
 case atStart=>exact⟨0,QG _,Q,Q,Q⟩
 case round=>
  obtain⟨i,hin,rfl,rfl,rfl⟩:=hrel;by_cases b:i<R.length
  .skip
   obtain⟨g,cap,he,-,-,q,v⟩:=HH.o.Od i b;obtain⟨vb,vd,f,-⟩:=az (HH.o.MC R[i] (sT b));rw[f]at v;have d:=nt R (i+1);have c:=wK R i b;rw[c]at d;have HT:Hid (totR (R.take (i+1))=totR (R.take i)+R[i].h.length):=c;clear f c q;have hii:(i:eV)<(R.length:eV):=by omega
   generalize R[i].h.length=m at *;generalize totR (R.take i)=t at *;go_wp2_with fail
   refine⟨⟨i+1,b,by rw[HT.o];go_num,by go_num,trivial⟩,by simp[intOf];omega⟩
  .have j:i=R.length:=by omega
   subst j;have HT:Hid (R.take R.length=R):=List.take_length;go_wp2;go_ret;exact⟨si (gI (λl=>(totR l:eV)) HT.o),Q⟩
theorem aY.grown{x z}{row:jp H}(h:aY w k x v z)(c:w.grownBy w' row)(a:row≠J k):aY w' k x v z:=
 ⟨c.cell h.c0 (λe=>a e.s),c.cell h.c1 (λe=>a e.s),c.cell h.c2 (λe=>a e.s),λj=>(bj c ⟨k,j,N⟩ h.lt (λe=>a e.s)).t (h.fz j)⟩
theorem aA.grown{R}{d:eV}{row:jp H}(a:aA B w k b R tm d)(c:w.grownBy w' row)(j:row≠J k)(i:b.ownBlock=N\/b.ownBlock≠row)(l:∀e∈R,e.v.ownBlock=N\/e.v.ownBlock≠row):
  aA B w' k b R tm d:=
 ⟨a.cells.grown c j,a.row.kept c i,λe f=>(a.MC e f).kept c (l e f),a.apart,a.MD,a.MF,a.pw⟩
theorem dX(o:jp H):o=N\/o≠none:=by grind
theorem aA.below{R}{b:eV}(a:aA B w k v R b tm)(d:Below w.heap.size w w'):aA B w' k v R b tm:=
 a.grown (aO d N) (by simp) (dX _) (λ_ _=>dX _)
theorem aA.alloc{R}{b:eV}(a:aA B w k v R b tm)o:aA B (w.alloc o) k v R b tm:=
 a.below ((bR _ _).alloc (lR _) _)
theorem aA.lt{R}(a:aA B w k v R tm c):k<w.heap.size:=a.cells.lt
theorem bz(w:Wj)(k o:H)(v:Wx):w.grownBy (w.setCell ⟨k,o,N⟩ v) (J k):=bU (World.grownBy.refl w _) _ _
theorem aA.N2{R}{f:eV}(a:aA B w k v R f tm)(b:eV):aA B (w.setCell ⟨k,1,N⟩ (I K b)) k v R b tm:=
 ⟨a.cells.N2 _,a.row.kept (bz w k 1 _) (Ql a.apart),λe c=>(a.MC e c).kept (bz w k 1 _) (Ql (a.MD e c)),a.apart,a.MD,a.MF,a.pw⟩
theorem oO{e:QB}{b}(h:w.ownsRow B e a v k b)(c:0<k):v.ownBlock≠none:=by
 obtain⟨g,cap,rfl,-⟩:=cq h c;simp[P9]
theorem aA.put0{sl'}{R R'}{t:eV}(c:aA B w k p R tm t)(s:w.grownBy w' p.ownBlock)(x:w'.ownsRow B 140 2 sl' R'.length (aB R'))(o:sl'.ownBlock=J g)
  (j:p.ownBlock=J g\/w.heap.size<=g) (q:∀e∈R',(e∈R)\/(e.h=[]/\e.v=M N 0 0)) (n:R'.Pairwise (λa b=>a.v.ownBlock≠b.v.ownBlock)):
  aA B (w'.setCell ⟨k,0,N⟩ sl') k sl' R' tm t:=by
 have hk:=c.lt;have l:g≠k:=by
  rcases j with h|h
  .intro e;subst e;exact c.apart h
  .omega
 have hE:∀e∈R,e.v.ownBlock≠J g:=λe f=>by
  rcases j with h|h
  .rw [<-h];exact c.MF e f
  .intro y;have:=(c.MC e f).lt g y;omega
 have d:=bz w' k 0 sl';refine⟨(c.cells.grown s (λe=>c.apart e)).NY _,x.kept d (Ql (by rw[o];simpa using l)),?_,by rw[o];simpa using l,?_,?_,n⟩
 .intro e f;rcases q e f with h|⟨r,i⟩
  .exact ((c.MC e h).kept s (Ql (c.MF e h))).kept d (Ql (c.MD e h))
  .rw [r,i];exact World.ownsRow_nil _ _ _ _
 .intro e f;rcases q e f with h|⟨r,i⟩
  .exact c.MD e h
  .rw [i];simp[P9]
 .intro e f;rw[o];rcases q e f with h|⟨r,i⟩
  .exact hE e h
  .rw [i];simp[P9]
theorem wL(R:S bg)(i:H)(hi:i<R.length)(h:S Ver)(v:Wx):(aB R).set (i*2+1) v=aB (R.set i ⟨R[i].key,h,v⟩):=by
 have a:R=R.take i++R[i]::R.drop (i+1):=by simp
 have e:(R.take i).length=i:=by rw[tL];omega
 have c:(aB (R.take i)).length=i*2:=by rw[jK,e]
 have d:aB R=aB (R.take i)++([U R[i].key,R[i].v]++aB (R.drop (i+1))):=
  (gI aB a).t (by unfold aB;rw[PU,PM])
 have b:R.set i ⟨R[i].key,h,v⟩=R.take i++⟨R[i].key,h,v⟩::R.drop (i+1):=by
  grind
 rw[b,d,PQ _ _ (by omega),c,Nat.add_sub_cancel_left];simp[aB]
theorem Lp{R:S bg}(_hi:i<R.length){x:bg}(c:R.Pairwise (λa b=>a.v.ownBlock≠b.v.ownBlock))(hx:∀j (hj:j<R.length),j≠i->R[j].v.ownBlock≠x.v.ownBlock):(R.set i x).Pairwise (λa b=>a.v.ownBlock≠b.v.ownBlock):=by
 rw[sq]at c ⊢
 grind
theorem aA.Pv{A:H}{R:S bg}(a:aA B w k (M (J ⟨t,0,N⟩) R.length A) R nx tm)(V:i<R.length){h':S Ver}{n:jp H}(P:w.grownBy w' n)(o:n=N\/n=R[i].v.ownBlock)
  (ho:w'.ownsRow B 130 3 v' h'.length (aw h')) (hv:v'.ownBlock=N\/v'.ownBlock=R[i].v.ownBlock\/∃g,v'.ownBlock=J g/\w.heap.size<=g) (r:∀j (c:j<R.length),j≠i->R[j].h≠[]):
  aA B (w'.setCell ⟨t,i*2+1,N⟩ v') k (M (J ⟨t,0,N⟩) R.length A) (R.set i ⟨R[i].key,h',v'⟩) nx tm:=by
 have hk:=a.lt;have f:=sT V;have D:=a.row.lt t Q;have T:n≠J k:=by
  rcases o with h|h
  .rw [h];simp
  .rw [h];exact a.MD _ f
 have X:n≠J t:=by
  rcases o with h|h
  .rw [h];simp
  .rw [h];exact a.MF _ f
 have u:∀b,b<w.heap.size->R[i].v.ownBlock≠J b->v'.ownBlock≠J b:=by
  grind
 have G:=u k hk (a.MD _ f);have z:=u t D.2 (a.MF _ f);have L:=a.pw;rw[sq]at L;have y:∀j (c:j<R.length),j≠i->R[j].v.ownBlock≠R[i].v.ownBlock:=λj c l=>by
  grind
 have p:∀j (c:j<R.length),j≠i->R[j].v.ownBlock≠v'.ownBlock:=λj c l=>by
  cases hb:R[j].v.ownBlock with
  |none=>exact g6 hb (oO (a.MC _ (sT c)) (vf.2 (r j c l)))
  |some b=>
   have hlt:=(a.MC _ (sT c)).lt b hb
   grind
 have hs:=(a.row.kept P (Ql (λe=>X e.s))).stored (i*2+1) v';have m:=hs.2;have hc:=(a.cells.grown P T).grown m (λe=>a.apart (by simpa[P9]using e));have d:∀e∈R.set i ⟨R[i].key,h',v'⟩,e=⟨R[i].key,h',v'⟩\/∃j,∃c:j<R.length,j≠i/\e=R[j]:=λe q=>by
  obtain⟨j,c,rfl⟩:=gM q
  grind
 refine⟨hc,?_,?_,a.apart,?_,?_,Lp V a.pw p⟩
 .rw [PI,<-wL R i V h' v'];exact hs.1
 .intro e q;rcases d e q with rfl|⟨j,c,l,rfl⟩
  .exact ho.kept m (Ql z)
  .have x:=sT c;refine((a.MC _ x).kept P ?_).kept m (Ql (a.MF _ x));rcases o with h|h
   .rw [h];exact dX _
   .rw [h];exact Ql (y j c l)
 .intro e q;rcases d e q with rfl|⟨j,c,l,rfl⟩
  .exact G
  .exact a.MD _ (sT c)
 .intro e q;rcases d e q with rfl|⟨j,c,l,rfl⟩
  .exact z
  .exact a.MF _ (sT c)
structure Sim (st:St)(R:S bg)(nx:eV):Prop where
 next:nx=st.last+1
 full:∀e∈R,e.h≠[]
 keys:R.Pairwise (λa b=>a.key≠b.key)
 here:∀e∈R,st.f e.key.data.toList=e.h
 gone:∀k,(∀e∈R,e.key.data.toList≠k)->st.f k=[]
 count:st.count=(totR R:eV)
 MO:totR R<=200
def RwB(sl:Wx)(R:S bg)(b:H):Prop:=sl.ownBlock=J b\/∃e∈R,e.v.ownBlock=J b
structure bm (w w':Wj)(k:H)(sl:Wx)(R:S bg)(sl':Wx)(R':S bg):Prop where
 os:w'.os=w.os
 tape:w'.tape=w.tape
 output:w'.output=w.output
 size:w.heap.size<=w'.heap.size
 block:∀b,b<w.heap.size->b≠k->sl.ownBlock≠J b->(∀e∈R,e.v.ownBlock≠J b)->w'.heap[b]?=w.heap[b]?
 cells:∀j,3<=j->w'.cell? ⟨k,j,N⟩=w.cell? ⟨k,j,N⟩
 frozen:∀j,w'.frozen? ⟨k,j,N⟩=w.frozen? ⟨k,j,N⟩
 own:∀b,b<w.heap.size->RwB sl' R' b->RwB sl R b
def cy(B k:H)(d:St)(a:Cu)(w:Wj)(sl:Wx)(R:S bg)(tm:eV)(e:Ending)(w':Wj):Prop:=
 e=Nm (aG a)/\∃c R' b,aA B w' k c R' b tm/\Sim d R' b/\bm w w' k sl R c R'
theorem bX(d:k<w.heap.size)(a:Below w.heap.size w w')e R:bm w w' k e R e R:=
 ⟨a.os,a.tape,a.output,a.size,λb h _ _ _=>a.block b h,λ_ _=>cB (a.block k d),λ_=>fB (a.block k d),λ_ _ h=>h⟩
theorem B4 w k o v(ho:o<3)a R:bm w (w.setCell ⟨k,o,N⟩ v) k a R a R:=
 ⟨Q,Q,Q,by simp[World.setCell],λb _ h _ _=>bS _ _ _ _ h,λj hj=>cO w ⟨k,o,N⟩ ⟨k,j,N⟩ v (λe=>by have:=gI Addr.off e;simp only at this;omega),λj=>by simp,λ_ _ h=>h⟩
theorem bm.below{R R'}(h:bm w w' k f R v R')(a:Below w'.heap.size w' W)(e:k<w'.heap.size):bm w W k f R v R':=
 ⟨a.os.t h.os,a.tape.t h.tape,a.output.t h.output,lT h.size a.size,λb i n p o=>(a.block b (lL i h.size)).t (h.block b i n p o),
  λj m=>(cB (a.block k e)).t (h.cells j m),λj=>(fB (a.block k e)).t (h.frozen j),h.own⟩
theorem bm.put{a}{R R1 R'}(h:bm w w' k v R f R1)(e:∀b,b<w.heap.size->RwB a R' b->RwB v R b):bm w w' k v R a R':=⟨h.os,h.tape,h.output,h.size,h.block,h.cells,h.frozen,e⟩
theorem bm.step{w i o}{k}{l d}{R R'}{a:jp H}(h:bm w i k l R d R')(c:i.grownBy o a)(hr:∀b,b<w.heap.size->a=J b->l.ownBlock=J b\/∃e∈R,e.v.ownBlock=J b)(m:k<i.heap.size)(f:a≠J k):bm w o k l R d R':=by
 refine⟨c.os.t h.os,c.tape.t h.tape,c.output.t h.output,lT h.size c.size,λb n q u r=>?_,
  λj p=>(cB (c.block k m (λe=>f e.s))).t (h.cells j p),λj=>(fB (c.block k m (λe=>f e.s))).t (h.frozen j),h.own⟩
 refine(c.block b (lL n h.size) (λe=>?_)).t (h.block b n q u r)
 grind
theorem km(w:Wj)(x:H)(a b c d e:Wx):w.grownBy (((((w.setCell ⟨x,0,N⟩ a).setCell ⟨x,1,N⟩ b).setCell ⟨x,2,N⟩ c).setCell ⟨x,3,N⟩ d).setCell ⟨x,4,N⟩ e) (J x):=
 bU (bU (bU (bU (bz w x 0 a) _ _) _ _) _ _) _ _
theorem dN A C:totR (A++C)=totR A+totR C:=by unfold totR;rw[xc,PX]
theorem Aq(R:S bg)(i:H)(hi:i<R.length)(x:bg):totR (R.set i x)+R[i].h.length=totR R+x.h.length:=by
 have a:R=R.take i++([R[i]]++R.drop (i+1)):=by simp
 have b:R.set i x=R.take i++([x]++R.drop (i+1)):=by grind
 have c:=gI totR a;rw[b,dN,dN,c,dN,dN];simp[totR];omega
theorem jM{R:S bg}{x e:bg}(a:e∈R.set i x):e=x\/∃j,∃b:j<R.length,j≠i/\e=R[j]:=by
 obtain⟨j,b,rfl⟩:=gM a
 grind
theorem rR{R:S bg}{x:bg}(a:i<R.length):x∈R.set i x:=PS.2 ⟨i,by rw[PI];exact a,by rw[PA,gL Q]⟩
theorem rT{R:S bg}{x:bg}(b:k<R.length)(a:k≠i):R[k]∈R.set i x:=PS.2 ⟨k,by rw[PI];exact b,by rw[PA,eW (λe=>a e.s)]⟩
theorem jN{n m:dT}(h:n.data.toList=m.data.toList):n=m:=by cases n;cases m;simp;exact Qu.1 h
theorem Sim.other{R:S bg}(a:Sim d R c){j:H}(hi:i<R.length)(hj:j<R.length)(hne:j≠i):R[j].key≠R[i].key:=by
 have b:=a.keys;rw[sq]at b
 grind
theorem Sim.OC{R:S bg}(c:Sim d R tm)(l:i<R.length){n:dT}(r:R[i].key=n)(q:dT)(t:lk)(v:Wx)(hc:¬200<=d.count):Sim (bM d n q t) (R.set i ⟨R[i].key,R[i].h++[⟨d.last+1,q,t⟩],v⟩) (d.last+1+1):=by
 subst r;have F:=Aq R i l ⟨R[i].key,R[i].h++[⟨d.last+1,q,t⟩],v⟩;simp at F;have hcnt:=c.count;refine⟨Q,?_,?_,?_,?_,?_,by omega⟩
 .intro e p;rcases jM p with rfl|⟨j,m,-,rfl⟩
  .simp
  .exact c.full _ (sT m)
 .rw [sq];intro a b A z y;rw[PI]at A z;rw[PA,PA];by_cases B:i=a
  .have o:¬i=b:=by omega
   rw[gL B,eW o];exactλe=>c.other l z (by omega) e.s
  .rw [eW B];by_cases o:i=b
   .rw [gL o];exact c.other l A (by omega)
   .rw [eW o];have D:=c.keys;rw[sq]at D;exact D a b A z y
 .intro e p;rcases jM p with rfl|⟨j,m,f,rfl⟩
  .simp [bM,upd,c.here _ (sT l)]
  .have u:R[j].key.data.toList≠R[i].key.data.toList:=λe=>c.other l m f (jN e)
   simp[bM,upd,u,c.here _ (sT m)]
 .intro k r;have B:=r _ (rR (x:=⟨R[i].key,R[i].h++[⟨d.last+1,q,t⟩],v⟩) l);have o:=c.gone k (λe p=>by
   obtain⟨j,m,rfl⟩:=gM p;by_cases f:j=i
   .grind
   .exact r _ (rT m f))
  simp[bM,upd]
  grind
 .show d.count+1=_;omega
theorem Sim.Pm{f}{R}(c:Sim f R tm){d:dT}(n:∀x∈R,x.key≠d)(l:dT)(m:lk)v(hc:¬200<=f.count):Sim (bM f d l m) (R++[⟨d,[⟨f.last+1,l,m⟩],v⟩]) (f.last+1+1):=by
 have ht:totR (R++[⟨d,[⟨f.last+1,l,m⟩],v⟩])=totR R+1:=by rw[dN];rfl
 have hcnt:=c.count;have j:∀e∈R,e.key.data.toList≠d.data.toList:=λe i h=>n e i (jN h)
 refine⟨Q,?_,?_,?_,?_,?_,by omega⟩
 .intro e i;rcases tb.1 i with h|h
  .exact c.full _ h
  .grind
 .rw [ta];refine⟨c.keys,NE _ _,λa ha b hb=>?_⟩
  grind
 .intro e i;rcases tb.1 i with h|h
  .simp [bM,upd,j e h,c.here _ h]
  .simp at h;subst h;have:=c.gone _ j;simp[bM,upd,this]
 .intro k h;have h1:=h ⟨d,[⟨f.last+1,l,m⟩],v⟩ (by simp);have h2:=c.gone k (λe i=>h e (PR _ i));simp[bM,upd]
  grind
 .show f.count+1=_;omega
theorem Yq.Nw:(Yq.prog.info? 140).map (λi=>(i.zero,i.size,i.bytes))=J (J (Qa #[U ⟨#[]⟩,M N 0 0]),2,40):=by kernel_rfl
theorem Yq.Np:(Yq.prog.info? 130).map (λi=>(i.zero,i.size,i.bytes))=J (J (Qa #[I K 0,U ⟨#[]⟩,C Z]),3,32):=by kernel_rfl
structure kz (x:H)(W:Wj):Prop where
 c0:W.cell? ⟨x,0,N⟩=J (I K 0)
 c1:W.cell? ⟨x,1,N⟩=J (I K 0)
 c2:W.cell? ⟨x,2,N⟩=J (U ⟨#[]⟩)
 c3:W.cell? ⟨x,3,N⟩=J (M N 0 0)
 c4:W.cell? ⟨x,4,N⟩=J (U ⟨#[]⟩)
 fz:∀j,W.frozen? ⟨x,j,N⟩=Z
theorem kz.lt(h:kz x W):x<W.heap.size:=bC W ⟨x,0,N⟩ h.c0
theorem IT(w:Wj)(x:H)(a:w.heap.size=x)(T:QB):kz x (w.alloc (E #[I K 0,I K 0,U ⟨#[]⟩,M N 0 0,U ⟨#[]⟩] T)):=by
 subst a;exact⟨by rw[cA (w:=w) _ _ w.heap.size 0 Q];rfl,by rw[cA (w:=w) _ _ w.heap.size 1 Q];rfl,by rw[cA (w:=w) _ _ w.heap.size 2 Q];rfl,by rw[cA (w:=w) _ _ w.heap.size 3 Q];rfl,by rw[cA (w:=w) _ _ w.heap.size 4 Q];rfl,λj=>World.frozen?_alloc_at (w:=w) _ _ w.heap.size j Q⟩
theorem kz.on(h:kz x W)(a:Below W.heap.size W w1):kz x w1:=
 ⟨ag a h.c0,ag a h.c1,ag a h.c2,ag a h.c3,ag a h.c4,λj=>(a.frozen (p:=⟨x,j,N⟩) h.lt).t (h.fz j)⟩
theorem kz.grown{row:jp H}(h:kz x W)(b:W.grownBy w1 row)(a:row≠J x):kz x w1:=
 ⟨b.cell h.c0 (λe=>a e.s),b.cell h.c1 (λe=>a e.s),b.cell h.c2 (λe=>a e.s),b.cell h.c3 (λe=>a e.s),b.cell h.c4 (λe=>a e.s),λj=>(bj b ⟨x,j,N⟩ h.lt (λe=>a e.s)).t (h.fz j)⟩
theorem dS{i}(h:Below B w i)(f:B<=x)a b c d e:Below B w (((((i.setCell ⟨x,0,N⟩ a).setCell ⟨x,1,N⟩ b).setCell ⟨x,2,N⟩ c).setCell ⟨x,3,N⟩ d).setCell ⟨x,4,N⟩ e):=
 ((((h.setCell f _).setCell f _).setCell f _).setCell f _).setCell f _
theorem EQ B k f R(c j:eV)i(l:dT)(u:eV)(p:dT)(s:lk)w(b:aA B w k f R c j)(a:Sim i R c)(hfull:200<=i.count):
  Calls Yq.prog 56 #[O (J ⟨k,0,N⟩),U l,Qa #[I K u,U p,C s]] w (cy B k i ⟨4,0,⟨#[]⟩⟩ w f R j):=by
 have h:=gB R a.full;have hlim:=a.MO;have hc:=a.count;have n:=b.lt;have HH:Hid (aA B w k f R c j/\Sim i R c):=⟨b,a⟩;go_enter (Yq.nq func56),ntmps56;go_wp2_with fail
 refine(nu B k f R c j _ ((HH.o.1.alloc _).alloc _) h (by omega)).m ?_;rintro e w1 ⟨rfl,rfl⟩;go_wp2_with fail
 refine(fk 4 _).m ?_;rintro e L ⟨rfl,q⟩;have D:=(((bR _ w).alloc (lR _) _).alloc (by simp) _).t (q.m (by simp;omega));have HB:Hid (Below w.heap.size w L):=D;have RA:=(IT (w.alloc (E #[I K u,U p,C s] 130)) (w.heap.size+1) (by simp) 46).on q;obtain⟨z,G,y,A,F,d⟩:=RA;have g0:=d 0;have g1:=d 1;have g2:=d 2;have g3:=d 3;have g4:=d 4;unfold aG;go_wp2;refine Qz (v:=aG ⟨4,0,⟨#[]⟩⟩) (by simp[results,results56,go_sem,aG,z,G,y,A,F]) Q ⟨Q,?_⟩;have r:=dS HB.o (x:=w.heap.size+1) (by omega) (I K 4) (I K 0) (U ⟨#[]⟩) (M N 0 0) (U ⟨#[]⟩);exact⟨f,R,c,HH.o.1.below r,HH.o.2,bX n r _ _⟩
theorem aA.Nx{j}{R}{l:eV}(a:aA B w k j R tm l){T:QB}(h:∃c z,w.heap[x]?=J (E c T z))(h1:T≠140)(h2:T≠130):
  j.ownBlock≠J x/\∀e∈R,e.v.ownBlock≠J x:=by
 constructor
 .obtain ⟨-,⟨rfl,-⟩|⟨g,i,b,rfl,-,m,-⟩⟩:=a.row
  .simp [P9]
  .intro e;simp[P9]at e
   grind
 .intro n d;obtain⟨-,⟨f,-⟩|⟨g,i,b,f,-,m,-⟩⟩:=a.MC n d
  .rw [f];simp[P9]
  .rw [f];intro e;simp[P9]at e
   grind
theorem aA.old{R}{i:eV}(a:aA B w k b R i c)(h:w.heap.size<=x):x≠k/\b.ownBlock≠J x/\∀e∈R,e.v.ownBlock≠J x:=
 ⟨by have:=a.lt;omega,λe=>by have:=(a.row.lt x e).2;omega,λe d f=>by have:=((a.MC e d).lt x f).2;omega⟩
theorem bm.after{i}{R R'}(a:Below w.heap.size w w')(f:k<w.heap.size)(c:bm w' W k i R v R'):bm w W k i R v R':=
 ⟨c.os.t a.os,c.tape.t a.tape,c.output.t a.output,lT a.size c.size,λb l o q p=>(c.block b (lL l a.size) o q p).t (a.block b l),
  λj n=>(c.cells j n).t (cB (a.block k f)),λj=>(c.frozen j).t (fB (a.block k f)),λb h=>c.own b (lL h a.size)⟩
theorem kz.frame{c}{R R'}(h:kz x W)(i:bm W w1 k f R c R')(d:x≠k/\f.ownBlock≠J x/\∀e∈R,e.v.ownBlock≠J x):kz x w1:=by
 have b:=i.block x h.lt d.1 d.2.1 d.2.2;exact⟨(cB b).t h.c0,(cB b).t h.c1,(cB b).t h.c2,(cB b).t h.c3,(cB b).t h.c4,λj=>(fB (a:=⟨x,j,N⟩) b).t (h.fz j)⟩
theorem IU{q h}{R R'}{i p:eV}(f:aA B w k q R tm p)(D:Below w.heap.size w w')(G:w.heap.size<=x)(r:x<w'.heap.size)(o:∃m z,w'.heap[x]?=J (E m 46 z))(H':aA B W k h R' i p)(F:bm w' W k q R h R')a b c d e:
  aA B (((((W.setCell ⟨x,0,N⟩ a).setCell ⟨x,1,N⟩ b).setCell ⟨x,2,N⟩ c).setCell ⟨x,3,N⟩ d).setCell ⟨x,4,N⟩ e) k h R' i p /\
  bm w (((((W.setCell ⟨x,0,N⟩ a).setCell ⟨x,1,N⟩ b).setCell ⟨x,2,N⟩ c).setCell ⟨x,3,N⟩ d).setCell ⟨x,4,N⟩ e) k q R h R':=by
 have⟨s,L,v⟩:=f.old G;have n:=F.block x r s L v;have u:=H'.Nx (x:=x) (T:=46) (by rw[n];exact o) (by decide) (by decide);have t:=km W x a b c d e;refine⟨H'.grown t (by simpa using s) (Ql u.1) (λy A=>Ql (u.2 y A)),(bm.after D f.lt F).step t (λb' h1 h2=>?_) H'.lt (by simpa using s)⟩
 grind
def Mid(B k:H)(tm:eV)(st:St)(key d:dT)(f:lk)(w:Wj)(sl:Wx)(R:S bg)(c:Wj)(i:H):Prop:=
 ∃a R1,∃hi:i<R1.length,aA B c k a R1 (st.last+1+1) tm/\(∀j (hj:j<R1.length),j≠i->R1[j].h≠[])/\R1.length<=1000/\R1[i].h.length<=1000/\kz (w.heap.size+1) c /\
  aY c w.heap.size (I K (st.last+1)) (U d) (C f)/\bm w c k sl R sl R/\w.heap.size+2<=c.heap.size /\
  (∀l,Sim (bM st key d f) (R1.set i ⟨R1[i].key,R1[i].h++[⟨st.last+1,d,f⟩],l⟩) (st.last+1+1)) /\
  (∀b,b<w.heap.size+2->a.ownBlock=J b->b<w.heap.size/\sl.ownBlock=J b)/\(∀e∈R1,∀b,e.v.ownBlock=J b->b<w.heap.size/\∃e'∈R,e'.v.ownBlock=J b)
theorem rV{d c}{R R'}(h:bm w w' k d R c R')v(_hk:k<w'.heap.size):bm w (w'.setCell ⟨k,0,N⟩ v) k d R c R':=
 ⟨h.os,h.tape,h.output,by simpa[World.setCell]using h.size,λb m f n l=>(bS _ _ _ _ f).t (h.block b m f n l),
  λj i=>(cO w' ⟨k,0,N⟩ ⟨k,j,N⟩ v (λe=>by have:=gI Addr.off e;simp only at this;omega)).t (h.cells j i),λj=>(by simp:(w'.setCell ⟨k,0,N⟩ v).frozen? ⟨k,j,N⟩=w'.frozen? ⟨k,j,N⟩).t (h.frozen j),h.own⟩
theorem rW(R:S bg)(i:H)(a:i<R.length):R[i].h.length<=totR R:=by
 have h2:=nt R (i+1);have h3:=wK R i a;omega
theorem H7{r:eV}{f m:dT}{d:Wx}{R:S bg}(c:aA B w k d R r tm)(a:Sim l R r)(v:¬200<=l.count)(p:i<R.length)(s:R[i].key=f)
  (X:aA B w' k d R (l.last+1+1) tm/\kz (w.heap.size+1) w'/\aY w' w.heap.size (I K (l.last+1)) (U m) (C T)/\bm w w' k d R d R/\w'.heap.size=w.heap.size+2):Mid B k tm l f m T w d R w' i:=by
 have h1:=gB R a.full;have h2:=a.MO;have h3:=rW R i p;refine⟨d,R,p,X.1,λj t _=>a.full _ (sT t),by omega,by omega,X.2.1,X.2.2.1,X.2.2.2.1,by omega,λu=>a.OC p s m T u v,λb _ h=>⟨(c.row.lt b h).2,h⟩,λe q b h=>⟨((c.MC e q).lt b h).2,e,q,h⟩⟩
theorem Lq{A}{f V:dT}{R}(d:aA B w k p R nx tm)(c:Sim A R nx)(hc:¬200<=A.count)(L:∀x∈R,x.key≠f)
  (X:aA B w' k p R (A.last+1+1) tm/\kz (w.heap.size+1) w'/\aY w' w.heap.size (I K (A.last+1)) (U V) (C T)/\bm w w' k p R p R/\w'.heap.size=w.heap.size+2) (o:Obj)  {n:H}
  (ho:W.ownsRow B 140 2 (M (J ⟨g,0,N⟩) (R.length+1) n) (R.length+1) (aB R++[U f,M N 0 0])) (l:(w'.alloc o).grownBy W p.ownBlock) (aa:p.ownBlock=J g\/g=w'.heap.size+1):
  Mid B k tm A f V T w p R (W.setCell ⟨k,0,N⟩ (M (J ⟨g,0,N⟩) (R.length+1) n)) R.length:=by
 obtain⟨X1,X2,X3,X4,X5⟩:=X;have h1:=gB R c.full;have h2:=c.MO;have hk:=d.lt;have ad:=X1.lt;have ab:aB (R++[⟨f,[],M N 0 0⟩])=aB R++[U f,M N 0 0]:=by unfold aB;rw[PU];rfl
 have i:(R++[⟨f,[],M N 0 0⟩]:S bg).length=R.length+1:=by simp
 have m:∀ (h:R.length<(R++[⟨f,[],M N 0 0⟩]:S bg).length),(R++[⟨f,[],M N 0 0⟩]:S bg)[R.length]=⟨f,[],M N 0 0⟩:=λh=>by simp
 have u:=λb q=>(d.row.lt b q).2
 have y:=d.apart;have hA:=X1.alloc o;have P:(R++[⟨f,[],M N 0 0⟩]:S bg).Pairwise (λa b=>a.v.ownBlock≠b.v.ownBlock):=by
  rw[ta];refine⟨X1.pw,NE _ _,λa ha b q=>?_⟩;simp at q;subst q;exact oO (X1.MC a ha) (vf.2 (c.full a ha))
 have ac:p.ownBlock=J g\/(w'.alloc o).heap.size<=g:=by
  rcases aa with h|h
  .grind
  .simp_all
 have G:=hA.put0 (g:=g) (sl':=M (J ⟨g,0,N⟩) (R.length+1) n) (R':=R++[⟨f,[],M N 0 0⟩]) l (by rw[i,ab];exact ho) Q ac
  (λe F=>by
   rcases tb.1 F with h|h
   .grind
   .simp at h;subst h;exact Ql ⟨Q,Q⟩) P
 have t:=bz W k 0 (M (J ⟨g,0,N⟩) (R.length+1) n);have r:Below w'.heap.size w' (w'.alloc o):=(bR _ _).alloc (lR _) _;have D:p.ownBlock≠J (w.heap.size+1):=λe=>by have:=u _ e;omega
 have z:p.ownBlock≠J w.heap.size:=λe=>by have:=u _ e;omega
 have hsz3:=l.size;have hsza:(w'.alloc o).heap.size=w'.heap.size+1:=by simp
 have hszs:(W.setCell ⟨k,0,N⟩ (M (J ⟨g,0,N⟩) (R.length+1) n)).heap.size=W.heap.size:=by simp[World.setCell]
 refine⟨_,_,by rw[i];omega,G,?_,by rw[i];omega,by rw[m];simp,?_,?_,?_,by omega,?_,?_,?_⟩
 .intro j hj hji;rw[i]at hj;rw[List.getElem_append_left (by omega)];exact c.full _ (sT _)
 .exact ((X2.on r).grown l D).grown t (by simp;omega)
 .exact ((X3.on r).grown l z).grown t (by simp;omega)
 .refine rV (((X4.below r ad).step l (λb _ h=>Qm h) (by omega) y)) _ (by omega)
 .intro v';rw[m,PQ _ _ (lR _),Nat.sub_self];exact c.Pm L V T v' hc
 .intro b q F;simp[P9]at F
  grind
 .intro e F b q;rcases tb.1 F with h|h
  .exact ⟨((d.MC e h).lt b q).2,e,h,q⟩
  .simp at h;subst h;simp[P9]at q
def Put(B k:H)(tm:eV)(c:St)(nx' MG:eV)(d:dT)(f:lk)(w:Wj)(sl:Wx)(R:S bg)(b:Wj):Prop:=
 ∃a R',aA B b k a R' nx' tm/\Sim c R' nx'/\bm w b k sl R a R'/\kz (w.heap.size+1) b/\aY b w.heap.size (I K MG) (U d) (C f)/\w.heap.size+2<=b.heap.size/\a.ownBlock≠J (w.heap.size+1)/\(∀e∈R',e.v.ownBlock≠J (w.heap.size+1))
theorem Lr{q:St}{L A:dT}{R R1:S bg}{D n:H}{va:jp Addr}(hi:i<R1.length)
  (c:aA B w' k (M (J ⟨D,0,N⟩) R1.length t) R1 (q.last+1+1) tm/\kz (w.heap.size+1) w'/\aY w' w.heap.size (I K (q.last+1)) (U A) (C z)/\bm w w' k V R V R/\R1[i].v=M va R1[i].h.length vc)
  (a:(∀j (hj:j<R1.length),j≠i->R1[j].h≠[])/\(∀v',Sim (bM q L A z) (R1.set i ⟨R1[i].key,R1[i].h++[⟨q.last+1,A,z⟩],v'⟩) (q.last+1+1))/\(∀b,b<w.heap.size+2->(Qg (J ⟨D,0,N⟩) R1.length t).ownBlock=J b->b<w.heap.size/\V.ownBlock=J b)/\(∀e∈R1,∀b,e.v.ownBlock=J b->b<w.heap.size/\∃e'∈R,e'.v.ownBlock=J b)/\w.heap.size+2<=w'.heap.size) (o:Obj)
  (ho:W.ownsRow B 130 3 (M (J ⟨g,0,N⟩) (R1[i].h.length+1) n) (R1[i].h.length+1) (aw R1[i].h++[I K (q.last+1),U A,C z])) (d:(w'.alloc o).grownBy W (Qg va R1[i].h.length vc).ownBlock) (p:(Qg va R1[i].h.length vc).ownBlock=J g\/g=w'.heap.size+1):
  Put B k tm (bM q L A z) (q.last+1+1) (q.last+1) A z w V R (W.setCell ⟨D,i*2+1,N⟩ (M (J ⟨g,0,N⟩) (R1[i].h.length+1) n)):=by
 obtain⟨Y1,Y2,Y3,Y4,Y5⟩:=c;obtain⟨Z1,Z2,Z3,Z4,Z5⟩:=a;rw[<-Y5]at d p;have f:=sT hi;have X:=Y1.lt;have hA:=Y1.alloc o;have u:Below w'.heap.size w' (w'.alloc o):=(bR _ _).alloc (lR _) _;have hsza:(w'.alloc o).heap.size=w'.heap.size+1:=by simp
 have r:∀b,w.heap.size<=b->R1[i].v.ownBlock≠J b:=λb G e=>by have:=(Z4 _ f b e).1;omega
 have m:∀b,w.heap.size<=b->b<w.heap.size+2->D≠b:=λb h1 T e=>by have:=(Z3 b T (by rw[<-e];rfl)).1;omega
 have hsz3:=d.size;have hszs:(W.setCell ⟨D,i*2+1,N⟩ (M (J ⟨g,0,N⟩) (R1[i].h.length+1) n)).heap.size=W.heap.size:=by simp_all
 have y:=bz W D (i*2+1) (M (J ⟨g,0,N⟩) (R1[i].h.length+1) n);have P:=hA.Pv (v':=M (J ⟨g,0,N⟩) (R1[i].h.length+1) n) (h':=R1[i].h++[⟨q.last+1,A,z⟩]) hi d (Ql Q) (by rw[mh];simpa using ho)
  (p.elim (λh=>Ql (Qm h.s)) λh=>Ql (Ql ⟨g,Q,by omega⟩)) Z1
 have aa:D≠k:=λe=>Y1.apart (by rw[<-e];rfl)
 refine⟨_,_,P,Z2 _,?_,((Y2.on u).grown d (r _ (by omega))).grown y (by simpa using m _ (by omega) (by omega)),((Y3.on u).grown d (r _ (by omega))).grown y (by simpa using m _ (by omega) (by omega)),by omega,by simpa[P9]using m _ (by omega) (by omega),?_⟩
 .refine (((Y4.below u X).step d (λb G e=>Ql (Z4 _ f b e).2) (by omega) (Y1.MD _ f)).step y (λb G e=>Qm (Z3 b (by omega) e).2) (by omega) (by simpa using aa)).put λb G h=>?_
  rcases h with h|⟨x,hx,h⟩
  .exact Qc (Z3 b (by omega) h).2
  .rcases jM hx with rfl|⟨j,hj,-,rfl⟩
   .simp [P9]at h;rcases p with T|T
    .exact Qd (Z4 _ f b (by rw[T,h])).2
    .omega
   .exact Qd (Z4 _ (sT hj) b h).2
 .intro e he;rcases jM he with rfl|⟨j,hj,-,rfl⟩
  .intro G;simp[P9]at G
   grind
  .grind
end
