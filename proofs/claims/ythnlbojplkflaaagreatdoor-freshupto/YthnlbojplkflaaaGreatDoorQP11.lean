/- A part. -/
import Derived.Test.YthnlbojplkflaaaGreatDoorQP08
import Derived.Deep.AppendLies
set_option maxHeartbeats 4000000
set_option maxRecDepth 100000
open _root_ renaming ByteArray->dT,UInt8->ey,Int->eV,if_neg->eW,congrArg->gI,if_pos->gL,absurd->kr,Option->lj,of_decide_eq_true->lk,decide_eq_false->nF,Bool->n8,decide_eq_decide->pt,exists_eq_or_imp->sq,decide_eq_true->sT
open List renaming pairwise_iff_getElem->tb,getElem_mem->tn,pairwise_append->uc,mem_append->vf,mem_cons->vx,foldl_cons->wz,length_pos_iff->xb,pairwise_cons->xc,isPrefixOf_iff_prefix->xt,mem_singleton->xv,map_append->yz,cons_lt_cons_iff->Rj,take_append_drop->Rk,cons_append->Rl,pairwise_singleton->Rm,mem_flatMap->Rn,getElem_set->Ro,mem_map->Rp,length_set->Rq,drop_append_of_le_length->Rr,length->Rt,prefix_append->Ru,flatMap_cons->Rv,length_eq_zero_iff->Rw,eq_nil_or_concat->Rx,concat_eq_append->Ry,set_append_right->Rz,mem_append_left->RB,mem_iff_getElem->RE,take_succ_cons->RF,flatMap_append->RG,pairwise_map->RJ,any_eq_true->RN,sum_append->RQ,foldl_nil->RU,lt_trans->RY,map_map->RZ
open Go.Value renaming ownBlock->R3,slice->R4,int->R5
open UInt8 renaming ofNat->R6,toNat_ofNat'->R7,toNat->R8
open Or renaming inr->R9,inl->Sa
open Go.Lib renaming decDigits_one->Sb,decDigits->Sc,strCells->Sd
open List.cons renaming inj->Se
open Int renaming natCast_add->Sf,natCast_mul->Sg,natCast_one->Sh
open Array renaming toList_inj->Si
open Classical renaming byContradiction->Sj
open Go renaming wrap_small->Sk,bodyPost_ret->Sl,TypeId->Sm
open ByteArray renaming ext->Sn,size->Sp
open Go renaming World->Wj,Value->Wx
namespace Go.Proofs.Qw
open _root_ renaming rfl->Q
open _root_ renaming Nat->H,List->S
open Option renaming none->N,some->J
open Bool renaming true->Y,false->Z
open Value renaming int->I,string->U,slice->M,pointer->O,bool->C,agg->Rd
open IntKind renaming i64->K
open Obj renaming cells->E
open Ending renaming returned->Rc
open Or renaming inl->Rf,inr->Rg
variable {W w w' w1:Wj}{V b f p v v':Wx}{B a g i k s t vc x:H}{e o:dT×Ver}{d j l u:St}{L:Lg}{nx tm:eV}{mk:n8}
open Tryz
section
open Go.Conc Go.ConcX Go.ConcX.Gen Go.RowKit
theorem nQ:∀ (l:S ItD)(i:H)(a:i<l.length),(az l)[i*3]?=J (I K l[i].kind)/\(az l)[i*3+1]?=J (U l[i].text)/\(az l)[i*3+2]?=J (I K l[i].NP)
 | [],i,a=>by simp at a
 |z::l,0,a=>by simp[az]
 |z::l,i+1,a=>by
  have ih:=nQ l i (by simpa using a);have e:az (z::l)=[I K z.kind,U z.text,I K z.NP]++az l:=by simp[az]
  have b:∀j,(az (z::l))[(i+1)*3+j]?=(az l)[i*3+j]?:=λj=>by
   rw[e,aR (by simp;omega)];congr 1;simp;omega
  simp only[List.getElem_cons_succ];exact⟨(b 0).t ih.1,(b 1).t ih.2.1,(b 2).t ih.2.2⟩
structure j6 (w:Wj)(v:Wx)(NA:S ItD):Prop where
 form:∃a cap,v=M a NA.length cap/\(NA≠[]->∃g,a=J ⟨g,0,N⟩/\∀j,j<NA.length*3->w.cell? ⟨g,j,N⟩=(az NA)[j]?)
theorem j6.left{NA}(h:j6 w v NA)(f:ax w w'):j6 w' v NA:=by
 obtain⟨a,b,rfl,i⟩:=h.form;refine⟨a,b,Q,λc=>?_⟩;obtain⟨g,rfl,e⟩:=i c;refine⟨g,Q,λj d=>?_⟩;have:=e j d;rw[<-this];rw[eL (by rw[gV];exact d)]at this;exact(f.cell this).t this.s
theorem po{NA}(h:w.ownsRow a 67 3 v NA.length (az NA)):j6 w v NA:=by
 rcases h.2 with⟨rfl,d⟩|⟨g,b,cur,rfl,hbg,hg,hnc,hcm,hcs,htake⟩;exact⟨N,0,by rw[d],λc=>kr (Rw.1 d) c⟩;exact⟨_,b,Q,λ_=>⟨g,Q,λj e=>h.cellAt j e⟩⟩
@[simp] theorem MV:Yq.prog.stoodInHeld 67=false:=by kernel_rfl
end
section
open Go.RowKit
theorem JJ(p x y:S ey):p++x<p++y↔x<y:=by
 induction p with
 |nil=>simp
 |cons a p ih=>simp[ih]
theorem ow n:∀ (f:S ey->S Ver)(h:S ey),(dF n f h).Pairwise λa b=>a.1<b.1:=by
 induction n with
 |zero=>intro f h;simp[dF]
 |succ n ih=>
  intro f h;have j:∀b,∀x∈dF n (λk=>f (b::k)) (h++[b]),∃r,x.1=h++(b::r):=λb x d=>by
   obtain⟨r,i⟩:=(wF n _ _ x d).1;exact⟨r,by rw[<-i];simp⟩
  rw[dF,uc];refine⟨?_,?_,?_⟩;split<;>simp
  have p:=lU;generalize Dn=l at p;induction l with
  |nil=>simp
  |cons b l o=>
   have⟨s,q⟩:=xc.1 p;rw[Rv,uc];refine⟨ih _ _,o q,λx d y e=>?_⟩;have⟨c,t,e⟩:=Rn.1 e;have⟨r,i⟩:=j b x d;have⟨r',m⟩:=j c y e;rw[i,m,JJ,Rj];exact Rf (s c t)
  intro x d y e;obtain⟨c,-,e⟩:=Rn.1 e;have⟨r,i⟩:=j c y e;split at d
  simp at d;simp only[xv]at d;subst d;rw[i];have:=(JJ h [] (c::r)).2 (by simp);simpa using this
theorem xm(f:S ey->S Ver)p:(bV f p).Pairwise λa b=>a.1<b.1:=ow _ _ _
theorem me:∀ (c k x:S ey),c <+:k->¬x<c->x<k->c <+:x
 | [],_,x,_,_,_=>List.nil_prefix
 |a::c,k,x,h,h1,d=>by
  obtain⟨r,rfl⟩:=h;cases x with
  |nil=>exact kr (by simp) h1
  |cons b x=>
   rw[Rl,Rj]at d;rw[Rj]at h1;rcases d with d|⟨rfl,d⟩
   .exact kr (Rf d) h1
   .have:=me c (c++r) x (Ru _ _) (λe=>h1 (Rg ⟨Q,e⟩)) d;exact List.cons_prefix_cons.2 ⟨Q,this⟩
theorem Ft(d u r:S ey)(h:d.length<=u.length):d.isPrefixOf (u++r)=d.isPrefixOf u:=by
 rw[Bool.eq_iff_iff,xt,xt];constructor;exactλa=>List.prefix_of_prefix_length_le a (Ru u r) h
 grind
theorem j7{d}(c:d≠[]):∀ (s:S ey)(i:H),dO d s=J i->i+d.length<=s.length
 | [],i,h=>by simp[dO,c]at h
 |b::r,i,h=>by
  rw[dO]at h;split at h
  .rename_i e;cases h;have:=(xt.1 e).length_le;omega
  .cases a:dO d r with
   |none=>simp[a]at h
   |some j=>
    have:=j7 c r j a;simp[a]at h;simp only[lC];omega
theorem xn{d}(e:d≠[])r k:∀ (u:S ey)(i:H),u.length=i+d.length->dO d (u++r)=J i->dO d (u++k)=J i
 | [],i,hl,h=>by
  have:0<d.length:=xb.2 e;simp only[lN]at hl;omega
 |b::u,i,hl,h=>by
  have c:d.length<=(b::u).length:=by omega
  rw[Rl,dO]at h ⊢;rw[<-Rl,Ft d _ _ c]at h ⊢;by_cases f:d.isPrefixOf (b::u)=Y
  .rw [gL f]at h ⊢;exact h
  .rw [eW f]at h ⊢;cases a:dO d (u++r)with
   |none=>simp[a]at h
   |some j=>
    simp[a]at h;have:=xn e r k u j (by simp only[lC]at hl;omega) a;rw[this];simp[h]
theorem sE{q}{k c x}(h:bc q k=J c)(n:c <+:x):bc q x=J c:=by
 unfold bc at h ⊢;by_cases j:q.d.size=0
 grind
 rw[eW j]at h ⊢;have f:q.d.data.toList≠[]:=λe=>j (by simpa using gI Rt e)
 have a:q.d.data.toList.length=q.d.size:=by simp
 cases b:dO q.d.data.toList (k.drop q.p.size)with
 |none=>simp[b]at h
 |some i=>
  simp[b]at h;have m:=j7 f _ i b;rw[lD,a]at m;have hpos:0<q.d.size:=by omega
  have hcl:c.length=q.p.size+i+q.d.size:=by grind
  obtain⟨r,rfl⟩:=n;have hk:k=c++k.drop (q.p.size+i+q.d.size):=by rw[<-h];exact(Rk _ _).s
  have l:k.drop q.p.size=c.drop q.p.size++k.drop (q.p.size+i+q.d.size):=by
   grind
  rw[l]at b;rw[(Rr (by omega)),xn f _ r (c.drop q.p.size) i (by rw[lD,a];omega) b]
  grind
theorem kN{q}{b c}(h:bc q b=J c):c <+:b:=by
 unfold bc at h;split at h
 cases h;cases a:dO q.d.data.toList (b.drop q.p.size)with
 |none=>simp[a]at h
 |some i=>
  grind
def txt(x:ItD):S ey:=x.text.data.toList
theorem sF:∀ {c k:S ey},c <+:k->¬k<c
 | [],k,_=>by simp
 |a::c,k,h=>by
  obtain⟨r,rfl⟩:=h;rw[Rl,Rj];rintro(h|⟨-,h⟩)
  .exact kr h (by simp)
  .exact sF (Ru c r) h
theorem MW{c b:S ey}(h:¬c<b)(hne:c≠b):b<c:=by grind
theorem JK{c b x:S ey}(h:c <+:b)(a:b<x):c<x:=by
 by_cases e:c=b
 grind
 exact RY (MW (sF h) (λh=>e h.s)) a
end
section
open Go.Conc Go.ConcX Go.ConcX.Gen Go.RowKit
def baL(l:S ey):dT:=⟨l.toArray⟩
theorem jt l:(baL l).size=l.length:=by simp[baL,Sp]
theorem Ml(s:dT):baL s.data.toList=s:=Sn (by simp[baL])
theorem AZ l n:tkB (baL l) n=baL (l.take n):=by
 refine Sn (Si.1 ?_);simp[tkB,jt];simp[baL]
theorem A0 l n:rsB (baL l) n=baL (l.drop n):=by
 refine Sn (Si.1 ?_);simp only[rsB,ByteArray.data_extract,jt];by_cases h:n<=l.length
 rw[Nat.min_eq_left h];simp[baL];rw[tO (by simp)];rw[Nat.min_eq_right (by omega)];simp[baL];omega
def mf(n:H):S ey:=(List.range 8).map λi=>R6 (n/2 ^ (8*(7-i))%256)
theorem A2 n:(mf n).length=8:=by simp[mf]
theorem Fu n(h:n<18446744073709551616):uK (mf n)=n:=by
 have e:mf n=[R6 (n/2^56%256),R6 (n/2^48%256),R6 (n/2^40%256),R6 (n/2^32%256),R6 (n/2^24%256),R6 (n/2^16%256),R6 (n/2^8%256),R6 (n/2^0%256)]:=rfl;rw[e];have h5:n/2^40=n/2^48*256+n/2^40%256:=by omega
 have h4:n/2^32=n/2^40*256+n/2^32%256:=by omega
 have h3:n/2^24=n/2^32*256+n/2^24%256:=by omega
 have h2:n/2^16=n/2^24*256+n/2^16%256:=by omega
 simp only[uK,wz,RU,R7,Nat.mod_mod,Nat.zero_mul,zA]
 grind
def g9(s:dT):S ey:=R6 (s.size%256)::s.data.toList
theorem Fv(s:dT)r(h:s.size<256):txB (baL (g9 s++r))=s/\txR (baL (g9 s++r))=baL r:=by
 have e:txL (baL (g9 s++r))=s.size:=by
  rw[txL,AZ];simp only[baL,g9,Rl,RF,List.take_zero,uK,wz,RU,R7];omega
 have b:rsB (baL (g9 s++r)) 1=baL (s.data.toList++r):=by rw[A0];rfl
 have a:s.size=s.data.toList.length:=by simp
 refine⟨?_,?_⟩;rw[txB,e,b,AZ,a,List.take_left,Ml];rw[txR,e,b,A0,a,List.drop_left]
theorem A3 n r(h:n<18446744073709551616):nm8 (baL (mf n++r))=n/\rsB (baL (mf n++r)) 8=baL r:=by
 refine⟨?_,?_⟩;rw[nm8,AZ,List.take_append_of_le_length (by rw[A2];omega)];exact Fu n h;rw[A0,Rr (by rw[A2];omega)];rfl
theorem A4(b:ey)r:txL (baL (b::r))=b.toNat/\rsB (baL (b::r)) 1=baL r:=by
 refine⟨?_,by rw[A0];rfl⟩;rw[txL,AZ];simp[baL,uK]
theorem qN{n:Type}{f:n->eV}:∀ {l m:S n},l.Pairwise (λa b=>f a<f b)->m.Pairwise (λa b=>f a<f b)->(∀x,x∈l↔x∈m)->l=m
 | [],[],_,_,_=>rfl
 | [],b::m,_,_,h=>by have:=(h b).2 (by simp);simp at this
 |a::l,[],_,_,h=>by have:=(h a).1 (by simp);simp at this
 |a::l,b::m,hl,hm,h=>by
  rw[xc]at hl hm;have j:a=b:=by
   have d:=(h a).1 (by simp);have i:=(h b).2 (by simp);rcases vx.1 d with d|d
   .exact d
   .rcases vx.1 i with i|i
    .exact i.s
    .have:=hm.1 a d;have:=hl.1 b i;omega
  subst j;congr 1;refine qN hl.2 hm.2 λx=>?_
  have k:=h x;simp only[vx]at k;constructor
  .intro c;rcases k.1 (Rg c)with e|e
   .subst e;have:=hl.1 _ c;omega
   .exact e
  .intro c;rcases k.2 (Rg c)with e|e
   .subst e;have:=hm.1 _ c;omega
   .exact e
def uA(e:dT×Ver):S ey:=if e.2.mark then 2::(mf e.2.num.toNat++g9 e.1)else 1::(mf e.2.num.toNat++(g9 e.1++g9 e.2.body))
structure Lo (e:dT×Ver):Prop where
 key:aV e.1=Y
 body:e.2.body.size<=100
 mark:e.2.mark=Y->e.2.body=⟨#[]⟩
 num:1<=e.2.num/\e.2.num<=9223372036854775807
def q9(st:St)(e:dT×Ver):St:=ce (Nz st (e.2.num-1)) e.1 e.2.body e.2.mark
theorem IZ{a}{x:eV}(h:Lo e)(z:a.last<e.2.num)(hc:a.count<200)r:dq a x (baL (uA e++r))=J (q9 a e,x,baL r):=by
 obtain⟨k,v⟩:=e;obtain⟨d,A,t,B⟩:=h;simp only at d A t B z;have hks:=(lk d).2;have u:v.num.toNat<18446744073709551616:=by omega
 have q:mU a.last v.num.toNat=J (v.num-1):=by
  rw[mU,eW (by omega)];congr 1;omega
 have s:kZ (Nz a (v.num-1))=false:=nF (by simp[Nz];omega);cases c:v.mark with
 |true=>
  have m:uA (k,v)++r=2::(mf v.num.toNat++(g9 k++r)):=by simp[uA,c]
  have⟨n,o⟩:=A4 2 (mf v.num.toNat++(g9 k++r));have⟨j,l⟩:=A3 v.num.toNat (g9 k++r) u;have⟨p,i⟩:=Fv k r (by omega);have b:txL (baL (2::(mf v.num.toNat++(g9 k++r))))=2:=n;have f:NJ (Nz a (v.num-1)) k=(ce (Nz a (v.num-1)) k ⟨#[]⟩ Y,(Nz a (v.num-1)).last+1,0):=by simp[NJ,d,s]
  rw[m,dq,eW (by omega),gL b,o,j,q,l,p,i];simp[f,q9,c,t c]
 |false=>
  have m:uA (k,v)++r=1::(mf v.num.toNat++(g9 k++(g9 v.body++r))):=by simp[uA,c]
  have⟨n,o⟩:=A4 1 (mf v.num.toNat++(g9 k++(g9 v.body++r)));have⟨j,l⟩:=A3 v.num.toNat (g9 k++(g9 v.body++r)) u;have⟨p,i⟩:=Fv k (g9 v.body++r) (by omega);have⟨D,y⟩:=Fv v.body r (by omega);have b:txL (baL (1::(mf v.num.toNat++(g9 k++(g9 v.body++r)))))=1:=n;have f:lh (Nz a (v.num-1)) k v.body=(ce (Nz a (v.num-1)) k v.body Z,(Nz a (v.num-1)).last+1,0):=by
   simp[lh,d,s];omega
  rw[m,dq,gL b,o,j,q,l,p,i,D,y];simp[f,q9,c]
theorem sH(f:eV)r:∀ (c:S (dT×Ver))(d:St)(n:H),(∀e∈c,Lo e/\d.last<e.2.num)->c.Pairwise (λa b=>a.2.num<b.2.num)->d.count+c.length<=200->gg (n+c.length) d f (baL (c.flatMap uA++r))=gg n (c.foldl q9 d) f (baL r)
 | [],d,n,_,_,_=>rfl
 |e::c,d,n,h,hp,hc=>by
  rw[xc]at hp;rw[lC]at hc ⊢;have j:=h e (by simp);have l:(e::c).flatMap uA++r=uA e++(c.flatMap uA++r):=by simp
  have o:¬(baL (uA e++(c.flatMap uA++r))).size=0:=by
   rw[jt,uA];split<;>simp
  rw[<-Nat.add_assoc,gg,l,eW o,IZ j.1 j.2 (by omega)];have m:(q9 d e).last=e.2.num:=by simp[q9,ce,Nz]
  have i:(q9 d e).count=d.count+1:=by simp[q9,ce,Nz]
  exact sH f r c (q9 d e) n (λx k=>⟨(h x (by simp[k])).1,by rw[m];exact hp.1 x k⟩) hp.2 (by rw[i];omega)
theorem Fw(c:St)(d:eV)(a b n:H)(h1:c.last<=a)(h2:a<=9223372036854775807)(r:b<18446744073709551616):gg (n+3) c d (baL (3::(mf (a+1)++(4::mf b))))=J (⟨c.f,c.count,a⟩,(b:eV)):=by
 have⟨s,t⟩:=A4 3 (mf (a+1)++(4::mf b));have⟨o,q⟩:=A3 (a+1) (4::mf b) (by omega);have⟨u,k⟩:=A4 4 (mf b);have⟨j,i⟩:=A3 b [] r;rw[List.append_nil]at j i;have l:mU c.last (a+1)=J (a:eV):=by
  rw[mU,eW (by omega)];congr 1;omega
 have h:txL (baL (3::(mf (a+1)++(4::mf b))))=3:=s;have e:txL (baL (4::mf b))=4:=u;have m:dq c d (baL (3::(mf (a+1)++(4::mf b))))=J (Nz c a,d,baL (4::mf b)):=by
  rw[dq,eW (by omega),eW (by omega),gL h,t,o,l,q]
 have p:dq (Nz c a) d (baL (4::mf b))=J (Nz c a,(b:eV),baL []):=by
  rw[dq,eW (by omega),eW (by omega),eW (by omega),gL e,k,j,i]
 rw[show n+3=(n+2)+1 from Q,gg,eW (by rw[jt];simp),m];simp only;rw[show n+2=(n+1)+1 from Q,gg,eW (by rw[jt];simp),p];simp only;rw[gg,gL (by rw[jt];rfl)];rfl
theorem Fx(k:S ey):∀ (a:S (dT×Ver))(b:St),(a.foldl q9 b).f k=b.f k++(a.filter λe=>decide (e.1.data.toList=k)).map (·.2)
 | [],b=>by simp
 |e::a,b=>by
  rw[wz,Fx k a];by_cases h:e.1.data.toList=k
  .subst h;have:(q9 b e).f e.1.data.toList=b.f e.1.data.toList++[e.2]:=by simp[q9,ce,Nz,upd]
   rw[this,List.filter_cons_of_pos (by simp)];simp
  .have:(q9 b e).f k=b.f k:=by
    simp only[q9,ce,Nz,upd];rw[eW (λx=>h x.s)]
   rw[this,List.filter_cons_of_neg (by simpa using h)]
theorem qO:∀ (a:S (dT×Ver))(b:St),(a.foldl q9 b).count=b.count+a.length
 | [],b=>by simp
 |e::a,b=>by
  rw[wz,qO a];simp[q9,ce,Nz];omega
theorem sI(L:eV):∀ (a:S (dT×Ver))(b:St),b.last<=L->(∀e∈a,e.2.num<=L)->(a.foldl q9 b).last<=L
 | [],b,h,_=>h
 |e::a,b,h,hE=>by
  rw[wz];exact sI L a _ (by have:=hE e (by simp);simp[q9,ce,Nz];omega) λx c=>hE x (by simp[c])
theorem xo n:∀ (f:S ey->S Ver)(bs k:S ey),k.length<n->f k≠[]->(bs++k,f k)∈dF n f bs:=by
 induction n with
 |zero=>intro f bs k a;omega
 |succ n ih=>
  intro f bs k a c;rw[dF,vf];cases k with
  |nil=>left;simp[c]
  |cons b k=>
   right
   refine Rn.2 ⟨b,pd b,?_⟩
   grind
def toB(v:Wx):ey:=R6 (intOf v).toNat
theorem Lp(s:dT):(Sd s).map toB=s.data.toList:=by
 have:(toB∘λb:ey=>R5 .u8 (b.toNat:eV))=id:=by
  funext b;simp[toB,intOf]
 rw[Sd,RZ,this,List.map_id]
theorem A5(s:dT):(oQ s).map toB=g9 s:=by
 rw[oQ,yz,Lp];have:((s.size:eV)%256).toNat=s.size%256:=by omega
 simp[toB,intOf,g9,this]
theorem Lq(n:H):(num8 (n:eV) 8).map toB=mf n:=by
 rw[num8,mf,RZ];refine List.map_congr_left λi _=>?_
 simp;congr 1
theorem Lr(h:0<=e.2.num):(Dp e.1 e.2).map toB=uA e:=by
 obtain⟨n,b⟩:∃n:H,e.2.num=n:=⟨e.2.num.toNat,by omega⟩;have a:=Lq n;unfold Dp uA;rw[b];split
 simp[a,A5,toB,intOf];simp[a,A5,toB,intOf]
theorem A6:∀ (a:S (dT×Ver)),(∀e∈a,0<=e.2.num)->(iV a).map toB=a.flatMap uA
 | [],_=>rfl
 |e::a,h=>by
  have:=A6 a λx b=>h x (by simp[b])
  simp only[iV,Rv,yz]at this ⊢;rw[this,Lr (h e (by simp))]
theorem I0(a c:H)(f:j.last=a)(h:∀e∈cN j,0<=e.2.num):fT j c=baL ((cN j).flatMap uA++3::(mf (a+1)++4::mf c)):=by
 have d:fT j c=baL ((iV (cN j)++([R5 .u8 3]++num8 (j.last+1) 8++([R5 .u8 4]++num8 c 8))).map toB):=rfl;rw[d,f];simp[A6 _ h];rfl
structure mg (st:St):Prop where
 nil:st.f []=[]
 uniq:∀k k' v v',v∈st.f k->v'∈st.f k'->v.num=v'.num->k=k'
 mark:∀k,∀v∈st.f k,v.mark=Y->v.body=⟨#[]⟩
theorem Mm:mg st0:=⟨Q,λ_ _ _ _ h=>by simp[st0]at h,λ_ _ h=>by simp[st0]at h⟩
theorem mg.Nz(h:mg j)(l:eV):mg (Nz j l):=⟨h.nil,h.uniq,h.mark⟩
theorem qP(d:Inv j s){k}{v}(c:v∈j.f k):1<=v.num/\v.num<=j.last:=by
 have⟨i,b,e⟩:=gM c;have:=d.bounds k i b;rw[iA b,e]at this;exact this
theorem mg.add(h:mg j)(p:Inv j s)(c a:dT)(b:n8)(t:aV c=Y)(hm:b=Y->a=⟨#[]⟩):mg (ce j c a b):=by
 have hks:=(lk t).1;have d:∀k v,v∈(ce j c a b).f k->v∈j.f k\/(k=c.data.toList/\v=⟨j.last+1,a,b⟩):=λk v l=>by
  simp[ce,upd]at l
  grind
 refine⟨?_,λk r v q l n e=>?_,λk v l o=>?_⟩;simp only[ce,upd];rw[eW λe=>?_];exact h.nil;have:c.data.toList.length=0:=by rw[<-e];rfl
 have:c.size=0:=by simpa using this
 omega;rcases d k v l with i|⟨i,u⟩<;>rcases d r q n with m|⟨m,h4⟩
 exact h.uniq k r v q i m e;have:=(qP p i).2
 grind
 have:=(qP p m).2
 grind
 rw[i,m];rcases d k v l with i|⟨i,u⟩;exact h.mark k v i o
 grind
theorem mg.drop(h:mg d)(c:dT)r:mg (cg d c r):=by
 have a:∀k v,v∈(cg d c r).f k->v∈d.f k:=λk v b=>by
  simp[cg,upd]at b
  grind
 refine⟨List.eq_nil_iff_forall_not_mem.2 λv b=>?_,λk j v i b e=>h.uniq k j v i (a k v b) (a j i e),λk v b=>h.mark k v (a k v b)⟩;have:=a [] v b;rw[h.nil]at this;simp at this
theorem mg.step{a}{s}(h:mg a)(b:Inv a s)o:mg (aE a o).1:=by
 unfold aE
 repeat' split
 all_goals first
  |exact h
  |exact h.add b _ _ _ (by simpa using ‹¬aV o.key=Z›) (by intro h;first|rfl|cases h)
  |exact h.drop _ _
theorem mg.put(h:mg j)(d:Inv j s)(b a:dT):mg (lh j b a).1:=by
 have:=h.step d ⟨1,b,a,⟨#[]⟩,⟨#[]⟩,0,0⟩
 rwa [kF j ⟨1,b,a,⟨#[]⟩,⟨#[]⟩,0,0⟩ Q]at this
theorem mg.NJ(h:mg j)(c:Inv j s)(a:dT):mg (NJ j a).1:=by
 have:=h.step c ⟨4,a,⟨#[]⟩,⟨#[]⟩,⟨#[]⟩,0,0⟩
 rwa [jq j ⟨4,a,⟨#[]⟩,⟨#[]⟩,⟨#[]⟩,0,0⟩ Q]at this
theorem kO(i:eR j):o∈cN j↔o.2∈j.f o.1.data.toList:=by
 rw[cN,(kM _).mem_iff,dC,Rn];constructor;rintro⟨x,d,he⟩;obtain⟨k,h1,h2⟩:=iW _ _ _ x d
 grind
 intro h;have b:o.1.data.toList.length<41:=by
  refine Sj λhn=>?_
  rw[i.long _ (by omega)]at h;simp at h
 refine⟨(o.1.data.toList,j.f o.1.data.toList),?_,Rp.2 ⟨o.2,h,?_⟩⟩;have:=xo 41 j.f [] o.1.data.toList b (λc=>by rw[c]at h;simp at h);simpa[bV]using this;simp
theorem xq{c}(u:Inv c s)(G:mg c):(cN c).Pairwise λa b=>a.2.num<b.2.num:=by
 letI:=JE
 have q:(cN c).Pairwise λa b=>a.2.num<=b.2.num:=by
  refine tb.2 λi j r m d=>?_
  have h:=(qJ (dC (bV c.f []))).2 i j Q8 d (by rw[<-fJ];exact m);rw[ltE,decide_eq_false_iff_not]at h;have h':¬(cN c).toArray[j]!.2.num<(cN c).toArray[i]!.2.num:=h
  grind
 have n:(cN c).Pairwise λa b=>a.2.num≠b.2.num:=by
  refine((kM _).pairwise_iff (λh e=>h e.s)).2 ?_;rw[dC,List.pairwise_flatMap];refine⟨λx p=>?_,?_⟩;obtain⟨k,-,o⟩:=iW _ _ _ x p;rw[RJ,o];refine tb.2 λi j r m d=>?_
  have:=u.sorted _ i j d m;rw[iA r,iA m]at this
  grind
  refine List.Pairwise.imp_of_mem (fun{x y} p A hxy a D b B e=>?_) (ow 41 c.f []);obtain⟨v,t,rfl⟩:=Rp.1 D;obtain⟨z,l,rfl⟩:=Rp.1 B;obtain⟨k,h1,o⟩:=iW _ _ _ x p;obtain⟨L,h3,F⟩:=iW _ _ _ y A;rw[o]at t;rw[F]at l;have:=G.uniq k L v z t l e
  grind
 exact(q.and n).imp λh=>by omega
theorem Fy{b}(o:Inv b s)(l:eR b)(x:mg b)(d:H)(y:d<18446744073709551616):iY (fT b d)=J (b,(d:eV)):=by
 obtain⟨c,q⟩:∃n:H,b.last=n:=⟨b.last.toNat,by have:=o.NV;omega⟩;have hlS:=o.NY;have r:∀e∈cN b,1<=e.2.num/\e.2.num<=b.last:=λe h=>qP o ((kO l).1 h)
 have hlen:((cN b).length:eV)=b.count:=by
  have G:fU (bV b.f [])=tot 41 b.f:=rfl;rw[cN,fJ,j5,G];exact l.cnt
 have hle:=l.le;have B:=xq o x;have hE:∀e∈cN b,Lo e/\st0.last<e.2.num:=λe h=>by
  have p:=(kO l).1 h;have h2:=r e h;refine⟨⟨sT ⟨Nat.pos_of_ne_zero λF=>?_,(gy h).1⟩,l.body _ _ p,x.mark _ _ p,by omega⟩,by simp[st0];omega⟩;have:e.1.data.toList=[]:=List.eq_nil_of_length_eq_zero (by simpa using F);rw[this,x.nil]at p;simp at p
 have z:=I0 c d q λe h=>by have:=r e h;omega
 have u:(⟨((cN b).foldl q9 st0).f,((cN b).foldl q9 st0).count,(c:eV)⟩:St)=b:=by
  have D:((cN b).foldl q9 st0).f=b.f:=by
   funext k;rw[Fx];refine qN (f:=λv:Ver=>v.num) ?_ ?_ λv=>?_
   simp[st0]
   grind
   refine tb.2 λi j L A t=>?_
   have:=o.sorted k i j t A
   rwa [iA L,iA A]at this
   simp only[st0,List.nil_append,Rp,List.mem_filter];constructor;rintro⟨e,⟨h,T⟩,rfl⟩;rw[<-(lk T)];exact(kO l).1 h;exactλV=>⟨(⟨k.toArray⟩,v),⟨(kO l).2 (by simpa using V),by simp⟩,Q⟩
  have X:((cN b).foldl q9 st0).count=b.count:=by rw[qO];simp[st0];omega
  rw[D,X,<-q]
 have hL:gg ((fT b d).size+1) st0 0 (fT b d)=J (b,(d:eV)):=by
  have hsz:(cN b).length+3<=(fT b d).size+1:=by
   have P:∀a:S (dT×Ver),a.length<=(a.flatMap uA).length:=λa=>by
    induction a with
    |nil=>simp
    |cons e a ih=>
     have:1<=(uA e).length:=by unfold uA;split<;>simp
     grind
   have:=P (cN b);rw[z,jt]
   grind
  obtain⟨m,R⟩:∃m,(fT b d).size+1=m+3+(cN b).length:=⟨(fT b d).size+1-3-(cN b).length,by omega⟩;rw[R,z,sH 0 _ _ st0 (m+3) hE B (by simp[st0];omega),Fw _ 0 c d m ?_ (by omega) y,u];rw[<-q];exact sI b.last _ _ (by simp[st0];omega) λe h=>(r e h).2
 unfold iY;rw[hL];simp
theorem pq(n a:eV):ff n a≠⟨#[]⟩:=by
 intro h;have:=gI (λb=>b.data.size) h;simp[ff]at this
def sA:dT:=⟨#[97]⟩
def LsA.all(x:LsA):S ItD:=cq x.q (bV x.f x.q.p.data.toList)
theorem sJ(l:Lst)(p i:H)(b:l.size=p)(c:p<=20)(n:i<=1000):∀ (NA:S ItD)(k:H),k+NA.length<=2000->ed l ((i:eV)+1) k NA=(NA.take ((i+1)*p-k)).drop (i*p-k)
 | [],k,_=>by simp[ed]
 |x::r,k,h=>by
  have hb:(i+1)*p<=20020:=lT (Nat.mul_le_mul (show i+1<=1001 by omega) c) (by omega);have e0:(i+1)*p=i*p+p:=by rw[Nat.add_mul,Nat.one_mul]
  have d:IntKind.i64.wrap (((i:eV)+1)*l.size)=((i+1)*p:H):=by
   rw[b,Sk _ (by rw[<-Sh,<-Sf,<-Sg];omega) (by rw[<-Sh,<-Sf,<-Sg];omega)];rw[Sg,Sf];rfl
  have m:IntKind.i64.wrap (IntKind.i64.wrap (((i:eV)+1)*l.size)-l.size)=(i*p:H):=by
   rw[d,b,Sk _ (by omega) (by omega)];omega
  simp only[lC]at h;have ih:=sJ l p i b c n r (k+1) (by omega);rw[ed,ih];have a:jX l ((i:eV)+1) ((k:eV)+1)=decide (i*p<=k/\k<(i+1)*p):=by
   unfold jX;rw[m,d,Bool.decide_and];congr 1
   .exact pt.2 (by omega)
   .exact pt.2 (by omega)
  rw[a];by_cases f:k<(i+1)*p
  .have j:(i+1)*p-k=((i+1)*p-(k+1))+1:=by omega
   rw[j,RF];by_cases e:i*p<=k
   .rw [sT ⟨e,f⟩,gL Q,show i*p-k=0 by omega,show i*p-(k+1)=0 by omega];rfl
   .rw [nF (λh=>e h.1),eW (by simp),show i*p-k=(i*p-(k+1))+1 by omega];rfl
  .rw [nF (λh=>f h.2),eW (by simp),show(i+1)*p-k=0 by omega,show(i+1)*p-(k+1)=0 by omega];simp
section
variable {x:LsA} {p i:Nat}
theorem LsA.OR(a:x.size=p)(b:p<=20)(c:i<=1000)(hl:x.all.length<=1000):x.NI ((i:eV)+1)=(x.all.take ((i+1)*p)).drop (i*p):=
 sJ (x.N2 N) p i a b c x.all 0 (by omega)
theorem LsA.O4(a:x.size=p)(b:p<=20)(hi:i<=1000):x.tok ((i:eV)+1)=if(i+1)*p<x.all.length then ff x.num ((i:eV)+2)else⟨#[]⟩:=by
 have hb:(i+1)*p<=20020:=lT (Nat.mul_le_mul (show i+1<=1001 by omega) b) (by omega);have e1:IntKind.i64.wrap (((i:eV)+1)*x.size)=((i+1)*p:H):=by
  rw[a,Sk _ (by rw[<-Sh,<-Sf,<-Sg];omega) (by rw[<-Sh,<-Sf,<-Sg];omega)]
  grind
 have e2:IntKind.i64.wrap ((i:eV)+1+1)=(i:eV)+2:=by rw[Sk _ (by omega) (by omega)];omega
 show JC (x.N2 N) _ x.all.length=_;show(if IntKind.i64.wrap (((i:eV)+1)*x.size)<(x.all.length:eV)then ff x.num (IntKind.i64.wrap ((i:eV)+1+1))else _)=_
 grind
end
theorem kP u(h:¬u<10):Sc u=Sc (u/10)++[R6 (48+u%10)]:=by rw[Sc,dif_neg h]
theorem JL u:Sc u≠[]:=by
 by_cases h:u<10
 rw[Sb h];simp;rw[kP u h];simp
theorem Fz(ha:a<10)(hb:k<10)(h:R6 (48+a)=R6 (48+k)):a=k:=by
 have:=gI R8 h;simp at this;omega
theorem FA:∀u v:H,Sc u=Sc v->u=v:=λu=>by
 induction u using Nat.strongRecOn with
 |ind u ih=>
  intro v h;by_cases b:u<10<;>by_cases a:v<10
  .rw [Sb b,Sb a]at h;exact Fz b a (Se h).1
  .rw [Sb b,kP v a]at h;have:=gI Rt h;have c:=xb.2 (JL (v/10));simp only[lP,lS]at this;omega
  .rw [Sb a,kP u b]at h;have:=gI Rt h;have c:=xb.2 (JL (u/10));simp only[lP,lS]at this;omega
  .rw [kP u b,kP v a]at h;have⟨d,c⟩:=List.append_inj' h Q;have e1:=ih (u/10) (by omega) _ d;have e2:=Fz (by omega) (by omega) (Se c).1;omega
theorem FB:∀u:H,∀x∈Sc u,x≠46:=λu=>by
 induction u using Nat.strongRecOn with
 |ind u ih=>
  have d:∀a,a<10->R6 (48+a)≠46:=λa ha e=>by
   have:=gI R8 e;simp at this;have h46:(46:ey).toNat=46:=rfl;omega
  intro x b;by_cases c:u<10
  .rw [Sb c,xv]at b;subst b;exact d u c
  .rw [kP u c,vf,xv]at b;rcases b with b|rfl
   .exact ih (u/10) (by omega) x b
   .exact d _ (by omega)
theorem FC:∀ (a c b d:S ey),(∀x∈a,x≠46)->(∀x∈c,x≠46)->a++46::b=c++46::d->a=c/\b=d
 | [],[],b,d,_,_,h=>⟨Q,(Se h).2⟩
 | [],y::c,b,d,_,hc,h=>kr (Se h).1.s (hc y (by simp))
 |x::a,[],b,d,ha,_,h=>kr (Se h).1 (ha x (by simp))
 |x::a,y::c,b,d,ha,hc,h=>by
  have⟨f,j⟩:=Se h;have⟨i,k⟩:=FC a c b d (λz e=>ha z (by simp[e])) (λz e=>hc z (by simp[e])) j;exact⟨by rw[f,i],k⟩
theorem xr(h:ff a k=ff B s):a=B/\k=s:=by
 unfold ff at h;obtain⟨e,f⟩:=FC _ _ _ _ (FB a) (FB B) (gI (λk:dT=>k.data.toList) h);exact⟨FA _ _ e,FA _ _ f⟩
structure PlL where
 NA:S ItD
 v:Wx
 NI:H
 fin:eV
 gone:n8
structure PlT where
 text:dT
 ls:H
 pg:H
def PlL.NF(tm:eV)(l:PlL):n8:=!l.gone&&decide (tm<l.fin)
def opens(tm:eV)(P:S PlL):S (PlL×H):=P.zipIdx.filter λz=>z.1.NF tm
def LsA.key(x:LsA):eV×eV×S ItD×eV:=(x.num,x.left,x.all,x.size)
def CO(tm:eV)(z:PlL×H):eV×eV×S ItD×eV:=((z.2:eV)+1,z.1.fin-tm,z.1.NA,z.1.NI)
structure gh (L:Lg)(P:S PlL)(T:S PlT)(tm:eV)(s:H):Prop where
 time:L.tm=tm/\0<=tm/\tm<=1000*s
 begun:L.begun=P.length
 PN:P.length<=s/\T.length<=s
 opened:L.opened.map LsA.key=(opens tm P).map (CO tm)
 lists:∀l∈P,1<=l.NI/\l.NI<=20/\l.NA.length<=200/\l.fin<=1000*s+10/\0<=l.fin
 Ny:∀t∈T,t.text=ff ((t.ls+1:H):eV) ((t.pg+1:H):eV)/\∃l,P[t.ls]?=J l/\t.pg*l.NI<l.NA.length
 told:∀k n pg,ez k L.told=J (n,pg)->∃t∈T,t.text=k/\n=(t.ls:eV)+1/\pg=(t.pg:eV)+1
 here:∀t∈T,ez t.text L.told≠N
theorem CP(a:eV)(P:S PlL)(l:PlL):opens a (P++[l])=opens a P++if l.NF a then[(l,P.length)]else[]:=by
 unfold opens
 grind
theorem xu(a:eV)P:(opens a P).length=(P.filter (PlL.NF a)).length:=by
 have e:P.filter (PlL.NF a)=(opens a P).map (·.1):=by
  conv=>lhs;rw[<-List.zipIdx_map_fst 0 P]
  rw[List.filter_map];rfl
 grind
theorem gh.count{P}{T}(h:gh L P T tm s):(opens tm P).length=L.opened.length:=by
 have:=gI Rt h.opened
 grind
theorem gh.m{P}{T}{a:eV}{s'}(h:gh L P T a s)(hs:s<=s'):gh L P T a s':=
 ⟨⟨h.time.1,h.time.2.1,by have:=h.time.2.2;omega⟩,h.begun,⟨by have:=h.PN;omega,by have:=h.PN;omega⟩,h.opened,λl b=>by have:=h.lists l b;omega,h.Ny,h.told,h.here⟩
theorem MX:gh ⟨[],0,[],0⟩ [] [] 0 0:=⟨by simp,Q,by simp,Q,by simp,by simp,by simp[ez],by simp⟩
theorem gh.token{P}{T}{d:eV}(h:gh L P T d s)b a:∀t∈T,(t.ls=b/\t.pg=a)↔t.text=ff ((b+1:H):eV) ((a+1:H):eV):=λt c=>by
 rw[(h.Ny t c).1];constructor
 .rintro ⟨rfl,rfl⟩;rfl
 .intro e;have⟨h1,h2⟩:=xr e;omega
theorem CQ L(f:S ey->S Ver)q(n:eV)NA(a:cq q (bV f q.p.data.toList)=NA)(c:NA.length<=1000):
  ((n<1\/20<n)/\fN L f q n=(L,[],⟨#[]⟩,7))\/∃p:H,n=(p:eV)/\1<=p/\p<=20/\((NA.length<=p/\fN L f q n=(L,NA,⟨#[]⟩,0))\/(p<NA.length/\3<=L.opened.length/\fN L f q n=(L,[],⟨#[]⟩,8)) \/
   (p<NA.length/\L.opened.length<3/\fN L f q n=(⟨L.opened++[js L f q n],L.begun+1,ml (ff (L.begun+1) 2) (L.begun+1,2) L.told,L.tm⟩,NA.take p,ff (L.begun+1) 2,0))):=by
 by_cases h:n<1\/20<n
 exact Rf ⟨h,by rw[fN,gL h]⟩
 right
 refine⟨n.toNat,by omega,by omega,by omega,?_⟩;obtain⟨p,hp⟩:∃p:H,n.toNat=p:=⟨_,Q⟩;have e:(js L f q n).size=(p:eV):=by show n=(p:eV);omega
 have j:(js L f q n).all=NA:=a;have b:=LsA.O4 (x:=js L f q n) (p:=p) (i:=0) e (by omega) (by omega);have d:=LsA.OR (x:=js L f q n) (p:=p) (i:=0) e (by omega) (by omega) (by rw[j];exact c);rw[j]at b d;simp at b d;have hn:(js L f q n).num=L.begun+1:=rfl;rw[fN,eW h];by_cases k:NA.length<=p
 rw[eW (show¬p<NA.length by omega)]at b;rw[tO k]at d
 grind
 rw[gL (show p<NA.length by omega)]at b;rw[b,eW (pq _ _),d]
 grind
theorem gh.push{P}{T}{d:eV}(h:gh L P T d s)(f:S ey->S Ver)q p NA v(b:cq q (bV f q.p.data.toList)=NA)(hlen:NA.length<=200)(hp:1<=p/\p<=20)(hpl:p<NA.length):
  gh ⟨L.opened++[js L f q p],L.begun+1,ml (ff (L.begun+1) 2) (L.begun+1,2) L.told,L.tm⟩ (P++[⟨NA,v,p,d+10,Z⟩]) (T++[⟨ff (L.begun+1) 2,P.length,1⟩]) d (s+1):=by
 have hb:=h.begun;have i:=h.time;have hf:=h.PN;refine⟨⟨i.1,i.2.1,by omega⟩,by rw[lP];simp;omega,by rw[lP,lP];simp;omega,?_,λl c=>?_,λt a=>?_,λk n j e=>?_,λt a=>?_⟩;rw[CP,gL (by simp[PlL.NF];omega),yz,yz,h.opened];simp[LsA.key,CO,js,LsA.all,b];omega;rcases vf.1 c with c|c;have:=h.lists l c;omega
 grind
 rcases vf.1 a with a|a;have⟨o,l,m,h3⟩:=h.Ny t a
 grind
 simp_all
 simp[gz]at e;split at e
 simp_all
 have⟨t,o,m⟩:=h.told k n j e
 grind
 simp[gz];split
 simp;rename_i e1;rcases vf.1 a with a|a;exact h.here t a
 grind
end
section
open Go.RowKit
def eQ(a b:ItD):Prop:=txt a<txt b\/(txt a=txt b/\((a.kind≠2/\b.kind=2)\/((a.kind=2↔b.kind=2)/\b.NP<a.NP)))
theorem qQ{a b c}(d:eQ a b)(e:eQ b c):eQ a c:=by
 rcases d with d|⟨h,d⟩<;>rcases e with e|⟨f,e⟩
 exact Rf (RY d e);exact Rf (f▸d);exact Rf (h▸e);exact Rg ⟨h.t f,by omega⟩
theorem zw{e h}(c:eQ e h)(d:eQ h e):False:=by
 rcases c with c|⟨e1,c⟩<;>rcases d with d|⟨e2,d⟩
 grind
 grind
 grind
 omega
theorem FD{j:Type}{r:j->j->Prop}(f:∀a b,r a b->r b a->False):∀ (l m:S j),l.Pairwise r->m.Pairwise r->(∀x,x∈l↔x∈m)->l=m
 | [],[],_,_,_=>rfl
 | [],b::_,_,_,h=>kr ((h b).2 (by simp)) (by simp)
 |a::_,[],_,_,h=>kr ((h a).1 (by simp)) (by simp)
 |a::l,b::m,h1,h2,h=>by
  have⟨k,p⟩:=xc.1 h1;have⟨i,o⟩:=xc.1 h2;have e:a=b:=by
   rcases vx.1 ((h a).1 (by simp))with e|e
   .exact e
   .rcases vx.1 ((h b).2 (by simp))with n|n
    .exact n.s
    .exact (f _ _ (i a e) (k b n)).elim
  subst e;have d:∀x,(x∈l->x≠a)/\(x∈m->x≠a):=λx=>⟨λc e=>by subst e;exact f _ _ (k _ c) (k _ c),λc e=>by subst e;exact f _ _ (i _ c) (i _ c)⟩
  refine gI _ (FD f l m p o λx=>⟨λc=>?_,λc=>?_⟩)
  .exact ((vx.1 ((h x).1 (by simp[c]))).resolve_left ((d x).1 c))
  .exact ((vx.1 ((h x).2 (by simp[c]))).resolve_left ((d x).2 c))
def oS(a b:ItD):n8:=if a.text=b.text then(if decide (a.kind=2)=decide (b.kind=2)then decide (b.NP<a.NP)else decide (b.kind=2))else decide (txt a<txt b)
theorem Lt{e b}(h:txt e=txt b):e.text=b.text:=by
 unfold txt at h;cases ha:e.text
 simp_all
theorem xx a b:oS a b=Y↔eQ a b:=by
 unfold oS eQ;by_cases h:a.text=b.text
 have e:txt a=txt b:=by unfold txt;rw[h]
 grind
 have e:txt a≠txt b:=λe=>h (Lt e)
 grind
def atN(x:ItD)(l:S ItD):H->H
 | 0=>0
 |i+1=>match l[i]? with
  |some y=>if oS y x then i+1 else atN x l i
  |none=>atN x l i
theorem JM x l:∀i,atN x l i<=i
 | 0=>Q0
 |i+1=>by
  unfold atN;have:=JM x l i;split
  .split<;>omega
  .omega
theorem FE(x:ItD)(l:S ItD)(b:l.Pairwise eQ):∀i,i<=l.length->∀j (h:j<l.length),j<atN x l i->eQ l[j] x
 | 0,_,j,_,hj=>kr hj (by simp[atN])
 |i+1,hi,j,h,hj=>by
  unfold atN at hj;rw[eL (by omega)]at hj;simp only at hj;split at hj
  .rename_i c;have a:=(xx _ _).1 c;by_cases e:j=i
   .subst e;exact a
   .exact qQ (tb.1 b j i h (by omega) (by omega)) a
  .exact FE x l b i (by omega) j h hj
theorem A7(x:ItD)(l:S ItD):∀i,i<=l.length->∀j (h:j<l.length),atN x l i<=j->j<i->¬eQ l[j] x
 | 0,_,_,_,_,hj=>kr hj (by simp)
 |i+1,hi,j,h,h1,hj=>by
  unfold atN at h1;rw[eL (by omega)]at h1;simp only at h1;split at h1
  .omega
  .rename_i a;by_cases e:j=i
   .subst e;exactλb=>a ((xx _ _).2 b)
   .exact A7 x l i (by omega) j h h1 (by omega)
def GD(a b:ItD):n8:=decide (a.kind=b.kind)&&decide (a.text=b.text)&&decide (a.NP=b.NP)
theorem uB a b:GD a b=Y↔a=b:=by
 cases a;cases b;simp[GD,and_assoc]
def bE(l:S ItD)(x:ItD):S ItD:=if l.any (GD · x)then l else l.take (atN x l l.length)++x::l.drop (atN x l l.length)
theorem zx l x y:y∈bE l x↔y=x\/y∈l:=by
 unfold bE;split
 rename_i h;have⟨z,hz,e⟩:=RN.1 h;rw[uB]at e
 grind
 have:y∈l↔y∈l.take (atN x l l.length)\/y∈l.drop (atN x l l.length):=by rw[<-vf,Rk]
 grind
theorem FF l x(i:l.Pairwise eQ)(ht:∀y∈l,y=x\/eQ y x\/eQ x y):(bE l x).Pairwise eQ:=by
 unfold bE;split
 exact i;rename_i h;have hne:=λy f e=>h (RN.2 ⟨y,f,(uB _ _).2 e⟩)
 have d:=i;rw[<-Rk (atN x l l.length) l]at d;have⟨m,n,h3⟩:=uc.1 d;have hlow:∀y∈l.take (atN x l l.length),eQ y x:=λy f=>by
  obtain⟨j,k,rfl⟩:=gM f;rw[tL]at k;rw[List.getElem_take];exact FE x l i _ Q0 j (by omega) (by omega)
 have c:∀y∈l.drop (atN x l l.length),eQ x y:=λy f=>by
  obtain⟨j,k,rfl⟩:=gM f;rw[lD]at k;have hn:=A7 x l _ Q0 (atN x l l.length+j) (by omega) (by omega) (by omega)
  grind
 refine uc.2 ⟨m,xc.2 ⟨c,n⟩,λa ha b hb=>?_⟩
 grind
def OfK(q:Qy)(k:S ey)(h:S Ver)(x:ItD):Prop:=
 jo q k h=Y/\((bc q k=N/\x∈bM q.vs k h)\/∃c,bc q k=J c/\x=⟨2,⟨c.toArray⟩,0⟩)
theorem nR{c}{h}{x}(a:x∈bM mk c h):txt x=c/\x.kind≠2:=by
 unfold bM at a;split at a
 obtain⟨v,-,rfl⟩:=Rp.1 a;refine⟨Q,?_⟩;show(if v.mark then(4:eV)else 3)≠2
 grind
 rw[xv]at a;subst a;exact⟨Q,show(1:eV)≠2 by decide⟩
theorem FG(e:n8)k h(d:h.Pairwise λa b=>a.num<b.num):(bM e k h).Pairwise eQ:=by
 unfold bM;split
 rw[RJ,List.pairwise_reverse];refine d.imp fun{a b} c=>Rg ⟨Q,Rg ⟨?_,c⟩⟩
 show(if b.mark then(4:eV)else 3)=2↔(if a.mark then(4:eV)else 3)=2
 grind
 grind
theorem zy{q}{k c}(h:bc q k=J c):c≠[]:=by
 unfold bc at h;split at h
 cases h;rename_i f;cases b:dO q.d.data.toList (k.drop q.p.size)with
 |none=>rw[b]at h;cases h
 |some i=>
  rw[b]at h;have a:=j7 (d:=q.d.data.toList) (λe=>f (by rw[Sp,<-lY,e];rfl)) _ i b;have j:q.d.data.toList.length=q.d.size:=lY;rw[j,lD]at a;simp at h;subst h;intro e;have:=gI Rt e;rw[tL,lN]at this;omega
def Mn(q:Qy)(pre:KVs)(st:S ItD×S ey):Prop:=
 ∀x,st.1.getLast?=J x->∃kh∈pre,(bc q kh.1=N/\txt x=kh.1)\/(∃c,bc q kh.1=J c/\txt x=c/\st.2=c)
theorem A8{NA m:S ItD}(c:NA.Pairwise eQ)(f:m.Pairwise eQ)(h:∀x,NA.getLast?=J x->∀y∈m,eQ x y):(NA++m).Pairwise eQ:=by
 refine uc.2 ⟨c,f,λa d b i=>?_⟩;rcases Rx NA with rfl|⟨r,z,rfl⟩;simp at d;rw[Ry]at d c h;rcases vf.1 d with e|e;exact qQ ((uc.1 c).2.2 a e z (by simp)) (h z (by simp) b i)
 grind
theorem FH q:∀ (n:H)(f:KVs),f.length=n->f.Pairwise (λa b=>a.1<b.1)->(∀j∈f,j.2.Pairwise λa b=>a.num<b.num)->(aO q f).1.Pairwise eQ/\Mn q f (aO q f):=by
 intro n;induction n with
 |zero=>
  intro f m _ _;have:=Rw.1 m;subst this;exact⟨List.Pairwise.nil,λx h=>by simp[aO]at h⟩
 |succ n ih=>
  intro f m P F;rcases Rx f with rfl|⟨B,j,rfl⟩;simp at m;rw[Ry]at m P F ⊢;obtain⟨X,-,V⟩:=uc.1 P;have k:=λx d=>V x d j (by simp)
  have⟨t,v⟩:=ih B (by simp at m;exact m) X (λx d=>F x (by simp[d]));rw[oo];generalize aO q B=R at t v;have i:Mn q (B++[j]) R:=λx d=>by
   have⟨y,o,h⟩:=v x d
   grind
  unfold cG;by_cases L:jo q j.1 j.2=Y
  rw[gL L];cases p:bc q j.1 with
  |none=>
   simp only;refine⟨A8 t (FG _ _ _ (F j (by simp))) λx d z A=>?_,λx d=>?_⟩;refine Rf ?_;rw[(nR A).1];have⟨y,o,h⟩:=v x d;rcases h with⟨-,e⟩|⟨c,l,e,-⟩;rw[e];exact k y o;rw[e];exact JK (kN l) (k y o);rw[List.getLast?_append]at d;cases D:(bM q.vs j.1 j.2).getLast? with
   |none=>
    rw[D]at d;simp at d;exact i x d
   |some z=>
    rw[D]at d;simp at d;subst d;exact⟨j,by simp,Rf ⟨p,(nR (List.mem_of_getLast? D)).1⟩⟩
  |some c=>
   by_cases G:c=R.2
   simp[gL G];exact⟨t,i⟩;simp[eW G];refine⟨A8 t (Rm _ _) λx d z A=>?_,λx d=>?_⟩;rw[xv]at A;subst A;refine Rf ?_;show txt x<c;have⟨y,o,h⟩:=v x d;refine Sj λu=>?_
   rcases h with⟨T,e⟩|⟨c',l,e,e2⟩;rw[e]at u;have:=sE p (me c j.1 y.1 (kN p) u (k y o));rw[T]at this;cases this;rw[e]at u;have:=sE p (me c j.1 y.1 (kN p) (λr=>u (JK (kN l) r)) (k y o));rw[l]at this;cases this;exact G e2.s;simp at d;subst d;exact⟨j,by simp,Rg ⟨c,p,Q,Q⟩⟩
  rw[eW L];exact⟨t,i⟩
theorem xy q:∀ (l:KVs)(s:S ItD×S ey),(s.2=[]\/⟨2,⟨s.2.toArray⟩,0⟩∈s.1)->∀x,x∈(l.foldl (cG q) s).1↔x∈s.1\/∃kh∈l,OfK q kh.1 kh.2 x
 | [],s,_,x=>by simp
 |kh::l,s,hs,x=>by
  rw[wz];have a:(((cG q s kh).2=[]\/⟨2,⟨(cG q s kh).2.toArray⟩,0⟩∈(cG q s kh).1))/\(x∈(cG q s kh).1↔x∈s.1\/OfK q kh.1 kh.2 x):=by
   unfold cG OfK;by_cases b:jo q kh.1 kh.2=Y
   .rw [gL b];cases j:bc q kh.1 with
    |none=>
     refine⟨hs.imp id λh=>RB _ h,?_⟩;simp[b]
    |some c=>
     by_cases d:c=s.2
     .simp only[gL d];refine⟨hs,?_⟩;have i:=zy j;have f:=hs.resolve_left (λe=>i (d.t e));subst d;constructor
      .exact Rf
      .rintro (h|⟨-,h|⟨c',e,rfl⟩⟩)
       .exact h
       .cases h.1
       .cases e;exact f
     .simp only[eW d];refine⟨Rg (by simp),?_⟩;simp[b]
   .rw [eW b];exact⟨hs,by simp[b]⟩
  rw[xy q l _ a.1 x,a.2];simp only[vx,sq,or_assoc]
theorem zz q(l:KVs)x:x∈cq q l↔∃kh∈l,OfK q kh.1 kh.2 x:=by
 unfold cq aO;rw[xy q l _ (Rf Q) x];simp
def fo(q:Qy)(l:S ItD)(kh:S ey×S Ver):S ItD:=
 if q.p.data.toList.isPrefixOf kh.1&&jo q kh.1 kh.2 then
  match bc q kh.1 with
  |some c=>bE l ⟨2,⟨c.toArray⟩,0⟩
  |none=>(bM q.vs kh.1 kh.2).reverse.foldl bE l
 else l
def gi(q:Qy)(R:KVs):S ItD:=R.foldl (fo q) []
def Tot(P:ItD->Prop):Prop:=∀x y,P x->P y->x=y\/eQ x y\/eQ y x
theorem FI{P:ItD->Prop}(b:Tot P):∀ (m l:S ItD),l.Pairwise eQ->(∀x∈l,P x)->(∀x∈m,P x)->(m.foldl bE l).Pairwise eQ/\∀x,x∈m.foldl bE l↔x∈l\/x∈m
 | [],l,h,_,_=>⟨h,λx=>by simp⟩
 |y::m,l,h,hl,hm=>by
  have c:=hm y (by simp);have⟨d,f⟩:=FI b m (bE l y) (FF l y h λz i=>b z y (hl z i) c) (λx a=>((zx l y x).1 a).elim (λe=>e▸c) (hl x)) (λx a=>hm x (by simp[a]));refine⟨d,λx=>?_⟩;rw[wz,f x,zx,vx];constructor
  .rintro ((h|h)|h)
   .exact Rg (Rf h)
   .exact Rf h
   .exact Rg (Rg h)
  .rintro (h|h|h)
   .exact Rf (Rg h)
   .exact Rf (Rf h)
   .exact Rg h
theorem FJ{P:ItD->Prop}(e:Tot P)q a l(h:l.Pairwise eQ)(f:∀x∈l,P x)(b:q.p.data.toList <+:a.1->∀x,OfK q a.1 a.2 x->P x):
  (fo q l a).Pairwise eQ/\∀x,x∈fo q l a↔x∈l\/(q.p.data.toList <+:a.1/\OfK q a.1 a.2 x):=by
 unfold fo;unfold OfK at b ⊢;by_cases d:(q.p.data.toList.isPrefixOf a.1&&jo q a.1 a.2)=Y
 rw[gL d];rw[bT,xt]at d;replace b:=b d.1;cases i:bc q a.1 with
 |none=>
  rw[i]at b;have⟨h1,h2⟩:=FI e (bM q.vs a.1 a.2).reverse l h f (λx j=>b x ⟨d.2,Rf ⟨Q,List.mem_reverse.1 j⟩⟩)
  grind
 |some c=>
  rw[i]at b;refine⟨FF l _ h λz k=>e z _ (f z k) (b _ ⟨d.2,Rg ⟨c,Q,Q⟩⟩),λx=>?_⟩;rw[zx]
  grind
 grind
theorem FK{P:ItD->Prop}(a:Tot P)q:∀ (R:KVs)(l:S ItD),l.Pairwise eQ->(∀x∈l,P x)->(∀kh∈R,q.p.data.toList <+:kh.1->∀x,OfK q kh.1 kh.2 x->P x) ->
  (R.foldl (fo q) l).Pairwise eQ/\∀x,x∈R.foldl (fo q) l↔x∈l\/∃kh∈R,q.p.data.toList <+:kh.1/\OfK q kh.1 kh.2 x
 | [],l,h,_,_=>⟨h,λx=>by simp⟩
 |kh::R,l,h,hl,hR=>by
  have⟨c,b⟩:=FJ a q kh l h hl (hR kh (by simp));have⟨d,f⟩:=FK a q R (fo q l kh) c (λx j=>((b x).1 j).elim (hl x) λe=>hR kh (by simp) e.1 x e.2) (λy i=>hR y (by simp[i]));refine⟨d,λx=>?_⟩;rw[wz,f x,b x];simp only[vx,sq,or_assoc]
def InF(q:Qy)(f:S ey->S Ver)(x:ItD):Prop:=∃k,f k≠[]/\OfK q k (f k) x
theorem Lu q(f:S ey->S Ver)(u:∀k,(f k).Pairwise λa b=>a.num<b.num):Tot (InF q f):=λx y ⟨k,_,m⟩ ⟨z,_,l⟩=>by
 by_cases e:txt x<txt y
 .exact Rg (Rf (Rf e))
 by_cases d:txt y<txt x
 .exact Rg (Rg (Rf d))
 have n:=List.le_antisymm (List.not_lt.1 d) (List.not_lt.1 e);obtain⟨-,m|⟨c,-,rfl⟩⟩:=m<;>obtain⟨-,l|⟨c',-,rfl⟩⟩:=l
 .have t:=nR m.2;have v:=nR l.2;have:k=z:=by rw[<-t.1,<-v.1,n]
  subst this;have p:=FG q.vs k (f k) (u k);obtain⟨i,r,rfl⟩:=gM m.2;obtain⟨j,o,rfl⟩:=gM l.2;rcases Nat.lt_trichotomy i j with h|h|h
  .exact Rg (Rf (tb.1 p i j r o h))
  .subst h;exact Rf Q
  .exact Rg (Rg (tb.1 p j i o r h))
 .exact Rg (Rf (Rg ⟨n,Rf ⟨(nR m.2).2,Q⟩⟩))
 .exact Rg (Rg (Rg ⟨n.s,Rf ⟨(nR l.2).2,Q⟩⟩))
 .have:=n;subst this;exact Rf Q
theorem FL(f:S ey->S Ver)p k(b:k.length<=40)(a:p <+:k)(c:f k≠[]):(k,f k)∈bV f p:=by
 obtain⟨r,rfl⟩:=a;rw[lP]at b;exact xo (41-p.length) (λk=>f (p++k)) p r (by omega) c
theorem xz(f:S ey->S Ver)p x(b:x∈bV f p):p <+:x.1/\x.2=f x.1/\x.2≠[]:=by
 obtain⟨k,a,c⟩:=iW _ _ _ x b;exact⟨⟨k,a.s⟩,by rw[c,a],ft _ _ _ x b⟩
theorem zB q(f:S ey->S Ver)(R:KVs)(l:∀k,(f k).Pairwise λa b=>a.num<b.num)(e:∀k,f k≠[]->k.length<=40)
  (i:∀d∈R,d.2=f d.1/\f d.1≠[]) (hall:∀k,f k≠[]->(k,f k)∈R):gi q R=cq q (bV f q.p.data.toList):=by
 obtain⟨n,m⟩:=FK (Lu q f l) q R [] List.Pairwise.nil (λx j=>by simp at j) (λd c _ x j=>⟨d.1,(i d c).2,(i d c).1▸j⟩);refine FD (λ_ _=>zw) _ _ n (FH q _ _ Q (xm f _) λd c=>(xz f _ d c).2.1▸l _).1 λx=>((m x).t (Iff.t ?_ (zz q (bV f q.p.data.toList) x).s))
 constructor;rintro(h|⟨d,c,r,h⟩);simp at h;have⟨u,o⟩:=i d c;exact⟨(d.1,f d.1),FL f _ d.1 (e _ o) r o,u▸h⟩;rintro⟨d,c,h⟩;obtain⟨n,m,h3⟩:=xz f _ d c
 grind
theorem fx(c:eV)w:Calls Yq.prog 34 #[I K c] w λe a=>e=Rc (aG ⟨c,0,⟨#[]⟩⟩)/\Below w.heap.size w a:=by
 go_enter (Yq.nq func34),ntmps34;go_wp2;exact Sl (v:=aG ⟨c,0,⟨#[]⟩⟩) (by simp[aG,results,results34,go_sem]) Q ⟨Q,(Q9).alloc Q0 _⟩
def ii(x:Do)(a:lj Addr)(c:H):Wx:=Rd #[I K x.code,I K x.NP,U x.body,M a 0 c,U ⟨#[]⟩]
theorem eB(x:Do)(a:lj Addr)c w:Calls Yq.prog 30 #[ii x a c,aG x] w λe b=>e=Rc (C Y)/\Below w.heap.size w b:=by
 unfold aG ii;go_enter (Yq.nq func30),ntmps30;go_wp2;go_ret;exact⟨Q,((Q9).alloc Q0 _).alloc (by simp) _⟩
structure bz where
 key:dT
 h:S Ver
 v:Wx
def aB(R:S bz):S Wx:=R.flatMap λe=>[U e.key,e.v]
theorem j8 R:(aB R).length=R.length*2:=cF 2 _ (λ_=>Q) R
structure aD (B:H)(w:Wj)(k:H)(sl:Wx)(R:S bz)(nx tm:eV):Prop where
 cells:bB w k sl (I K nx) (I K tm)
 row:w.ownsRow B 147 2 sl R.length (aB R)
 NL:∀e∈R,w.ownsRow B 137 3 e.v e.h.length (aA e.h)
 apart:sl.ownBlock≠J k
 NM:∀e∈R,e.v.ownBlock≠J k
 NN:∀e∈R,e.v.ownBlock≠sl.ownBlock
 pw:R.Pairwise (λa b=>a.v.ownBlock≠b.v.ownBlock)
theorem aD.Pc{c:Wx}{R:S bz}{e:eV}(h:aD B w k c R tm e)(i:H)(b:i<R.length):
  ∃g a,c=M (J ⟨g,0,N⟩) R.length a/\B<=g/\g<w.heap.size/\w.cell? ⟨g,i*2,N⟩=J (U R[i].key)/\w.cell? ⟨g,i*2+1,N⟩=J R[i].v:=by
 obtain⟨g,a,rfl,d,f,h3⟩:=bm h.row (by omega);refine⟨g,a,Q,d,f,?_,?_⟩;have:=h.row.cellAt (i*2+0) (by omega);rw[aB,bL 2 _ (λ_=>Q) R i 0 b (by omega)]at this
 grind
 have:=h.row.cellAt (i*2+1) (by omega);rw[aB,bL 2 _ (λ_=>Q) R i 1 b (by omega)]at this
 grind
theorem xA(a:dT):(a.toList==a.toList)=true:=by simp
theorem xB{n m:dT}(h:n≠m):(n.toList==m.toList)=false:=by
 rw[ByteArray.toList_eq,ByteArray.toList_eq];have:n.data.toList≠m.data.toList:=λe=>h (by cases n;cases m;simp;exact Si.1 e)
 grind
def xC(R:S bz)(key:dT)(w:Wj)(e:Ending)(w':Wj):Prop:=
 w=w'/\((∃ (i:H) (h:i<R.length),R[i].key=key/\e=Rc (I K i))\/((∀x∈R,x.key≠key)/\e=Rc (I K (-1))))
theorem j9 B k u R(y t:eV)(b:dT)w(a:aD B w k u R y t)(hn:R.length<=1000):
  Calls Yq.prog 86 #[O (J ⟨k,0,N⟩),U b] w (xC R b w):=by
 obtain⟨va,vc,rfl,-⟩:=ao a.row;have c0:=a.cells.c0;have HH:=aq a;clear a;unfold xC;go_enter (Yq.nq func86),ntmps86;go_wp2_with fail
 go_loopw [5] (λs4 wr=>∃i:H,i<=R.length/\s4=I K i/\(∀j (h:j<R.length),j<i->R[j].key≠b)/\wr=w) (λs4 _=>R.length-(intOf s4).toNat)
 case atStart=>exact⟨0,Q8,Q,λj h e=>kr e (by omega),Q⟩
 case round=>
  obtain⟨i,hin,rfl,f,rfl⟩:=hrel;have l:=aq f;clear f;by_cases c:i<R.length
  obtain⟨g,cap,v,-,-,n,q⟩:=HH.o.Pc i c;cases v;have hii:(i:eV)<(R.length:eV):=by omega
  by_cases d:R[i].key=b
  .have HE:=aq d;rw[d]at n;clear d q;have p:=xA b;go_wp2_with fail
   go_ret;exact⟨Q,Sa ⟨i,c,HE.o,Q⟩⟩
  have HE:Hid (R[i].key≠b):=d;have p:=xB d;generalize R[i].key=kk at n p;clear q d;go_wp2_with fail
  refine⟨⟨i+1,c,by go_num,λj e hji=>?_,trivial⟩,by simp[intOf];omega⟩;rcases Nat.lt_or_ge j i with r|r;exact l.o j e r;have:j=i:=by omega
  subst this;exact HE.o;have m:i=R.length:=by omega
  subst m;go_wp2;go_ret;refine⟨Q,R9 ⟨λx s=>?_,Q⟩⟩;obtain⟨j,e,rfl⟩:=gM s;exact l.o j e e
def totR(R:S bz):Nat:=(R.map (·.h.length)).sum
theorem xD(R:S bz)(i:H)(h:i<R.length):totR (R.take (i+1))=totR (R.take i)+R[i].h.length:=by
 unfold totR;rw[tS h,yz,RQ];simp
theorem nS R i:totR R=totR (R.take i)+totR (R.drop i):=by
 unfold totR
 conv=>lhs;rw[<-Rk i R]
 grind
theorem ie R(h:∀e∈R,e.h≠[]):R.length<=totR R:=by
 induction R with
 |nil=>simp[totR]
 |cons a r ih=>
  have h1:=ih (λe b=>h e (List.mem_cons_of_mem _ b));have h2:=xb.2 (h a (List.mem_cons_self ..));simp[totR]at *;omega
theorem nT B k q R(u p:eV)w(a:aD B w k q R u p)(hlt:R.length<=totR R)(hn:totR R<=1000):
  Calls Yq.prog 67 #[O (J ⟨k,0,N⟩)] w λe r=>e=Rc (I K (totR R:eV))/\w=r:=by
 obtain⟨va,vc,rfl,-⟩:=ao a.row;have c0:=a.cells.c0;have HH:=aq a;go_enter (Yq.nq func67),ntmps67;go_wp2_with fail
 go_loopw [3,4] (λs3 s4 wr=>∃i:H,i<=R.length/\s3=I K (totR (R.take i):eV)/\s4=I K i/\wr=w) (λ_ s4 _=>R.length-(intOf s4).toNat)
 case atStart=>exact⟨0,Q8,Q,Q,Q⟩
 case round=>
  obtain⟨i,hin,rfl,rfl,rfl⟩:=hrel;by_cases b:i<R.length
  obtain⟨g,cap,he,-,-,n,s⟩:=HH.o.Pc i b;obtain⟨vb,vd,f,-⟩:=ao (HH.o.NL R[i] (tn b));rw[f]at s;have d:=nS R (i+1);have c:=xD R i b;rw[c]at d;have HT:=aq c;clear f c n;have hii:(i:eV)<(R.length:eV):=by omega
  generalize R[i].h.length=m at *;generalize totR (R.take i)=t at *;go_wp2_with fail
  refine⟨⟨i+1,b,by rw[HT.o];go_num,by go_num,trivial⟩,by simp[intOf];omega⟩;have j:i=R.length:=by omega
  subst j;have HT:Hid (R.take R.length=R):=List.take_length;go_wp2;go_ret;exact⟨tq (gI (λl=>(totR l:eV)) HT.o),Q⟩
theorem bB.grown{x z}{row:lj H}(h:bB w k x v z)(c:w.grownBy w' row)(a:row≠J k):bB w' k x v z:=
 ⟨c.cell h.c0 (λe=>a e.s),c.cell h.c1 (λe=>a e.s),c.cell h.c2 (λe=>a e.s),λj=>(bD c ⟨k,j,N⟩ h.lt (λe=>a e.s)).t (h.fz j)⟩
theorem aD.grown{R}{d:eV}{row:lj H}(a:aD B w k b R tm d)(c:w.grownBy w' row)(j:row≠J k)(i:b.ownBlock=N\/b.ownBlock≠row)(l:∀e∈R,e.v.ownBlock=N\/e.v.ownBlock≠row):
  aD B w' k b R tm d:=
 ⟨a.cells.grown c j,a.row.kept c i,λe f=>(a.NL e f).kept c (l e f),a.apart,a.NM,a.NN,a.pw⟩
theorem eh(o:lj H):o=N\/o≠none:=by grind
theorem aD.below{R}{b:eV}(a:aD B w k v R b tm)(d:Below w.heap.size w w'):aD B w' k v R b tm:=
 a.grown (aQ d N) (by simp) (eh _) (λ_ _=>eh _)
theorem aD.alloc{R}{d:eV}(a:aD B w k v R d tm)o:aD B (w.alloc o) k v R d tm:=
 a.below ((Q9).alloc Q0 _)
theorem aD.lt{R}{b:eV}(a:aD B w k v R b tm):k<w.heap.size:=a.cells.lt
theorem bH(w:Wj)(k o:H)(v:Wx):w.grownBy (w.setCell ⟨k,o,N⟩ v) (J k):=cn (World.grownBy.refl w _) _ _
theorem aD.OW{R}{f:eV}(a:aD B w k v R f tm)(b:eV):aD B (w.setCell ⟨k,1,N⟩ (I K b)) k v R b tm:=
 ⟨a.cells.OW _,a.row.kept (bH w k 1 _) (R9 a.apart),λe c=>(a.NL e c).kept (bH w k 1 _) (R9 (a.NM e c)),a.apart,a.NM,a.NN,a.pw⟩
theorem pu{e:Sm}{b}(h:w.ownsRow B e a v k b)(c:0<k):v.ownBlock≠none:=by
 obtain⟨g,cap,rfl,-⟩:=bm h c;simp[R3]
theorem aD.put0{sl'}{R R'}{t:eV}(c:aD B w k p R tm t)(s:w.grownBy w' p.ownBlock)(x:w'.ownsRow B 147 2 sl' R'.length (aB R'))(o:sl'.ownBlock=J g)
  (j:p.ownBlock=J g\/w.heap.size<=g) (q:∀e∈R',(e∈R)\/(e.h=[]/\e.v=M N 0 0)) (n:R'.Pairwise (λa b=>a.v.ownBlock≠b.v.ownBlock)):
  aD B (w'.setCell ⟨k,0,N⟩ sl') k sl' R' tm t:=by
 have hk:=c.lt;have l:g≠k:=by
  rcases j with h|h;intro e;subst e;exact c.apart h;omega
 have hE:∀e∈R,e.v.ownBlock≠J g:=λe f=>by
  rcases j with h|h;rw[<-h];exact c.NN e f;intro y;have:=(c.NL e f).lt g y;omega
 have d:=bH w' k 0 sl';refine⟨(c.cells.grown s (λe=>c.apart e)).OS _,x.kept d (R9 (by rw[o];simpa using l)),?_,by rw[o];simpa using l,?_,?_,n⟩;intro e f;rcases q e f with h|⟨r,i⟩;exact((c.NL e h).kept s (R9 (c.NN e h))).kept d (R9 (c.NM e h));rw[r,i];exact World.ownsRow_nil _ _ _ _;intro e f;rcases q e f with h|⟨r,i⟩;exact c.NM e h;rw[i];simp[R3];intro e f;rw[o];rcases q e f with h|⟨r,i⟩;exact hE e h;rw[i];simp[R3]
theorem xE(R:S bz)(i:H)(hi:i<R.length)(h:S Ver)(v:Wx):(aB R).set (i*2+1) v=aB (R.set i ⟨R[i].key,h,v⟩):=by
 have a:R=R.take i++R[i]::R.drop (i+1):=by simp
 have e:(R.take i).length=i:=by rw[tL];omega
 have c:(aB (R.take i)).length=i*2:=by rw[j8,e]
 have d:aB R=aB (R.take i)++([U R[i].key,R[i].v]++aB (R.drop (i+1))):=
  (gI aB a).t (by unfold aB;rw[RG,Rv])
 have b:R.set i ⟨R[i].key,h,v⟩=R.take i++⟨R[i].key,h,v⟩::R.drop (i+1):=by
  grind
 rw[b,d,Rz _ _ (by omega),c,Nat.add_sub_cancel_left];simp[aB]
theorem Mo{R:S bz}(_hi:i<R.length){x:bz}(c:R.Pairwise (λa b=>a.v.ownBlock≠b.v.ownBlock))(hx:∀j (hj:j<R.length),j≠i->R[j].v.ownBlock≠x.v.ownBlock):(R.set i x).Pairwise (λa b=>a.v.ownBlock≠b.v.ownBlock):=by
 rw[tb]at c ⊢
 grind
theorem aD.QI{A:H}{R:S bz}(a:aD B w k (M (J ⟨t,0,N⟩) R.length A) R nx tm)(P:i<R.length){h':S Ver}{n:lj H}(G:w.grownBy w' n)(o:n=N\/n=R[i].v.ownBlock)
  (ho:w'.ownsRow B 137 3 v' h'.length (aA h')) (hv:v'.ownBlock=N\/v'.ownBlock=R[i].v.ownBlock\/∃g,v'.ownBlock=J g/\w.heap.size<=g) (r:∀j (c:j<R.length),j≠i->R[j].h≠[]):
  aD B (w'.setCell ⟨t,i*2+1,N⟩ v') k (M (J ⟨t,0,N⟩) R.length A) (R.set i ⟨R[i].key,h',v'⟩) nx tm:=by
 have f:=tn P;have L:n≠J k:=by
  rcases o with h|h;rw[h];simp;rw[h];exact a.NM _ f
 have T:n≠J t:=by
  rcases o with h|h;rw[h];simp;rw[h];exact a.NN _ f
 have u:∀b,b<w.heap.size->R[i].v.ownBlock≠J b->v'.ownBlock≠J b:=by
  grind
 have z:=u t (a.row.lt t Q).2 (a.NN _ f);have F:=a.pw;rw[tb]at F;have y:∀j (c:j<R.length),j≠i->R[j].v.ownBlock≠R[i].v.ownBlock:=λj c l=>by
  grind
 have p:∀j (c:j<R.length),j≠i->R[j].v.ownBlock≠v'.ownBlock:=λj c l=>by
  cases V:R[j].v.ownBlock with
  |none=>exact kr V (pu (a.NL _ (tn c)) (xb.2 (r j c l)))
  |some b=>
   have hlt:=(a.NL _ (tn c)).lt b V
   grind
 have X:=(a.row.kept G (R9 (λe=>T e.s))).stored (i*2+1) v';have m:=X.2;have d:∀e∈R.set i ⟨R[i].key,h',v'⟩,e=⟨R[i].key,h',v'⟩\/∃j,∃c:j<R.length,j≠i/\e=R[j]:=λe q=>by
  obtain⟨j,c,rfl⟩:=gM q
  grind
 refine⟨(a.cells.grown G L).grown m (λe=>a.apart (by simpa[R3]using e)),?_,?_,a.apart,?_,?_,Mo P a.pw p⟩;rw[Rq,<-xE R i P h' v'];exact X.1;intro e q;rcases d e q with rfl|⟨j,c,l,rfl⟩;exact ho.kept m (R9 z);have x:=tn c;refine((a.NL _ x).kept G ?_).kept m (R9 (a.NN _ x));rcases o with h|h;rw[h];exact eh _;rw[h];exact R9 (y j c l);intro e q;rcases d e q with rfl|⟨j,c,l,rfl⟩;exact u k a.lt (a.NM _ f);exact a.NM _ (tn c);intro e q;rcases d e q with rfl|⟨j,c,l,rfl⟩;exact z;exact a.NN _ (tn c)
structure Sim (st:St)(R:S bz)(nx:eV):Prop where
 next:nx=st.last+1
 full:∀e∈R,e.h≠[]
 keys:R.Pairwise (λa b=>a.key≠b.key)
 here:∀e∈R,st.f e.key.data.toList=e.h
 gone:∀k,(∀e∈R,e.key.data.toList≠k)->st.f k=[]
 count:st.count=(totR R:eV)
 NW:totR R<=200
def RwB(sl:Wx)(R:S bz)(b:H):Prop:=sl.ownBlock=J b\/∃e∈R,e.v.ownBlock=J b
structure bU (w w':Wj)(k:H)(sl:Wx)(R:S bz)(sl':Wx)(R':S bz):Prop where
 os:w'.os=w.os
 tape:w'.tape=w.tape
 output:w'.output=w.output
 size:w.heap.size<=w'.heap.size
 block:∀b,b<w.heap.size->b≠k->sl.ownBlock≠J b->(∀e∈R,e.v.ownBlock≠J b)->w'.heap[b]?=w.heap[b]?
 cells:∀j,3<=j->w'.cell? ⟨k,j,N⟩=w.cell? ⟨k,j,N⟩
 frozen:∀j,w'.frozen? ⟨k,j,N⟩=w.frozen? ⟨k,j,N⟩
 own:∀b,b<w.heap.size->RwB sl' R' b->RwB sl R b
def cP(B k:H)(d:St)(a:Do)(w:Wj)(sl:Wx)(R:S bz)(tm:eV)(e:Ending)(w':Wj):Prop:=
 e=Rc (aG a)/\∃c R' b,aD B w' k c R' b tm/\Sim d R' b/\bU w w' k sl R c R'
theorem cw(d:k<w.heap.size)(a:Below w.heap.size w w')e R:bU w w' k e R e R:=
 ⟨a.os,a.tape,a.output,a.size,λb h _ _ _=>a.block b h,λ_ _=>cB (a.block k d),λ_=>fB (a.block k d),λ_ _ h=>h⟩
theorem CR w k o v(ho:o<3)a R:bU w (w.setCell ⟨k,o,N⟩ v) k a R a R:=
 ⟨Q,Q,Q,by simp[World.setCell],λb _ h _ _=>Ra h,λj hj=>cO w ⟨k,o,N⟩ ⟨k,j,N⟩ v (λe=>by have:=gI Addr.off e;simp only at this;omega),λj=>by simp,λ_ _ h=>h⟩
theorem bU.below{R R'}(h:bU w w' k f R v R')(a:Below w'.heap.size w' W)(e:k<w'.heap.size):bU w W k f R v R':=
 ⟨a.os.t h.os,a.tape.t h.tape,a.output.t h.output,lT h.size a.size,λb i n p o=>(a.block b (lL i h.size)).t (h.block b i n p o),
  λj m=>(cB (a.block k e)).t (h.cells j m),λj=>(fB (a.block k e)).t (h.frozen j),h.own⟩
theorem bU.put{a}{R R1 R'}(h:bU w w' k v R f R1)(e:∀b,b<w.heap.size->RwB a R' b->RwB v R b):bU w w' k v R a R':=⟨h.os,h.tape,h.output,h.size,h.block,h.cells,h.frozen,e⟩
theorem bU.step{w i o}{k}{l d}{R R'}{a:lj H}(h:bU w i k l R d R')(c:i.grownBy o a)(hr:∀b,b<w.heap.size->a=J b->l.ownBlock=J b\/∃e∈R,e.v.ownBlock=J b)(m:k<i.heap.size)(f:a≠J k):bU w o k l R d R':=by
 refine⟨c.os.t h.os,c.tape.t h.tape,c.output.t h.output,lT h.size c.size,λb n q u r=>?_,
  λj p=>(cB (c.block k m (λe=>f e.s))).t (h.cells j p),λj=>(fB (c.block k m (λe=>f e.s))).t (h.frozen j),h.own⟩
 refine(c.block b (lL n h.size) (λe=>?_)).t (h.block b n q u r)
 grind
theorem kQ(w:Wj)(x:H)(a b c d e:Wx):w.grownBy (((((w.setCell ⟨x,0,N⟩ a).setCell ⟨x,1,N⟩ b).setCell ⟨x,2,N⟩ c).setCell ⟨x,3,N⟩ d).setCell ⟨x,4,N⟩ e) (J x):=
 cn (cn (cn (cn (bH w x 0 a) _ _) _ _) _ _) _ _
theorem dR A C:totR (A++C)=totR A+totR C:=by unfold totR;rw[yz,RQ]
theorem A9(R:S bz)(i:H)(hi:i<R.length)(x:bz):totR (R.set i x)+R[i].h.length=totR R+x.h.length:=by
 have a:R=R.take i++([R[i]]++R.drop (i+1)):=by simp
 have b:R.set i x=R.take i++([x]++R.drop (i+1)):=by grind
 rw[b,dR,dR,gI totR a,dR,dR];simp[totR];omega
theorem ke{R:S bz}{x e:bz}(a:e∈R.set i x):e=x\/∃j,∃b:j<R.length,j≠i/\e=R[j]:=by
 obtain⟨j,b,rfl⟩:=gM a
 grind
theorem sK{R:S bz}{x:bz}(a:i<R.length):x∈R.set i x:=RE.2 ⟨i,by rw[Rq];exact a,by rw[Ro,gL Q]⟩
theorem sM{R:S bz}{x:bz}(b:k<R.length)(a:k≠i):R[k]∈R.set i x:=RE.2 ⟨k,by rw[Rq];exact b,by rw[Ro,eW (λe=>a e.s)]⟩
theorem kg{n m:dT}(h:n.data.toList=m.data.toList):n=m:=by cases n;cases m;simp;exact Si.1 h
theorem Sim.other{R:S bz}(a:Sim d R tm){j:H}(hi:i<R.length)(hj:j<R.length)(hne:j≠i):R[j].key≠R[i].key:=by
 have b:=a.keys;rw[tb]at b
 grind
theorem Sim.PG{R:S bz}(c:Sim d R tm)(l:i<R.length){n:dT}(q:R[i].key=n)(p:dT)(r:n8)(v:Wx)(hc:¬200<=d.count):Sim (ce d n p r) (R.set i ⟨R[i].key,R[i].h++[⟨d.last+1,p,r⟩],v⟩) (d.last+1+1):=by
 subst q;have F:=A9 R i l ⟨R[i].key,R[i].h++[⟨d.last+1,p,r⟩],v⟩;simp at F;have hcnt:=c.count;refine⟨Q,?_,?_,?_,?_,?_,by omega⟩;intro e o;rcases ke o with rfl|⟨j,m,-,rfl⟩;simp;exact c.full _ (tn m);rw[tb];intro a b A z y;rw[Rq]at A z;rw[Ro,Ro];by_cases B:i=a
 rw[gL B,eW (by omega)];exactλe=>c.other l z (by omega) e.s
 rw[eW B];by_cases u:i=b
 rw[gL u];exact c.other l A (by omega);rw[eW u];have D:=c.keys;rw[tb]at D;exact D a b A z y;intro e o;rcases ke o with rfl|⟨j,m,f,rfl⟩;simp[ce,upd,c.here _ (tn l)];have t:R[j].key.data.toList≠R[i].key.data.toList:=λe=>c.other l m f (kg e)
 simp[ce,upd,t,c.here _ (tn m)];intro k q;have B:=q _ (sK (x:=⟨R[i].key,R[i].h++[⟨d.last+1,p,r⟩],v⟩) l);have u:=c.gone k (λe o=>by
  obtain⟨j,m,rfl⟩:=gM o;by_cases f:j=i
  grind
  exact q _ (sM m f))
 simp[ce,upd]
 grind
 show d.count+1=_;omega
theorem Sim.Qu{f}{R}(c:Sim f R tm){d:dT}(n:∀x∈R,x.key≠d)(l:dT)(m:n8)v(hc:¬200<=f.count):Sim (ce f d l m) (R++[⟨d,[⟨f.last+1,l,m⟩],v⟩]) (f.last+1+1):=by
 have ht:totR (R++[⟨d,[⟨f.last+1,l,m⟩],v⟩])=totR R+1:=by rw[dR];rfl
 have hcnt:=c.count;have j:∀e∈R,e.key.data.toList≠d.data.toList:=λe i h=>n e i (kg h)
 refine⟨Q,?_,?_,?_,?_,?_,by omega⟩;intro e i;rcases vf.1 i with h|h;exact c.full _ h
 grind
 rw[uc];refine⟨c.keys,Rm _ _,λa ha b hb=>?_⟩
 grind
 intro e i;rcases vf.1 i with h|h;simp[ce,upd,j e h,c.here _ h];simp at h;subst h;have:=c.gone _ j;simp[ce,upd,this];intro k h;have h1:=h ⟨d,[⟨f.last+1,l,m⟩],v⟩ (by simp);have h2:=c.gone k (λe i=>h e (RB _ i));simp[ce,upd]
 grind
 show f.count+1=_;omega
theorem Yq.Ov:(Yq.prog.info? 147).map (λi=>(i.zero,i.size,i.bytes))=J (J (Rd #[U ⟨#[]⟩,M N 0 0]),2,40):=by kernel_rfl
theorem Yq.Oo:(Yq.prog.info? 137).map (λi=>(i.zero,i.size,i.bytes))=J (J (Rd #[I K 0,U ⟨#[]⟩,C Z]),3,32):=by kernel_rfl
structure ru (x:H)(W:Wj):Prop where
 c0:W.cell? ⟨x,0,N⟩=J (I K 0)
 c1:W.cell? ⟨x,1,N⟩=J (I K 0)
 c2:W.cell? ⟨x,2,N⟩=J (U ⟨#[]⟩)
 c3:W.cell? ⟨x,3,N⟩=J (M N 0 0)
 c4:W.cell? ⟨x,4,N⟩=J (U ⟨#[]⟩)
 fz:∀j,W.frozen? ⟨x,j,N⟩=Z
theorem ru.lt(h:ru x W):x<W.heap.size:=bC W ⟨x,0,N⟩ h.c0
theorem JN(w:Wj)(x:H)(a:w.heap.size=x)(T:Sm):ru x (w.alloc (E #[I K 0,I K 0,U ⟨#[]⟩,M N 0 0,U ⟨#[]⟩] T)):=by
 subst a;exact⟨by rw[cA (w:=w) _ _ w.heap.size 0 Q];rfl,by rw[cA (w:=w) _ _ w.heap.size 1 Q];rfl,by rw[cA (w:=w) _ _ w.heap.size 2 Q];rfl,by rw[cA (w:=w) _ _ w.heap.size 3 Q];rfl,by rw[cA (w:=w) _ _ w.heap.size 4 Q];rfl,λj=>World.frozen?_alloc_at (w:=w) _ _ w.heap.size j Q⟩
theorem ru.on(h:ru x W)(a:Below W.heap.size W w1):ru x w1:=
 ⟨ag a h.c0,ag a h.c1,ag a h.c2,ag a h.c3,ag a h.c4,λj=>(a.frozen (p:=⟨x,j,N⟩) h.lt).t (h.fz j)⟩
theorem ru.grown{row:lj H}(h:ru x W)(b:W.grownBy w1 row)(a:row≠J x):ru x w1:=
 ⟨b.cell h.c0 (λe=>a e.s),b.cell h.c1 (λe=>a e.s),b.cell h.c2 (λe=>a e.s),b.cell h.c3 (λe=>a e.s),b.cell h.c4 (λe=>a e.s),λj=>(bD b ⟨x,j,N⟩ h.lt (λe=>a e.s)).t (h.fz j)⟩
theorem dZ{i}(h:Below B w i)(f:B<=x)a b c d e:Below B w (((((i.setCell ⟨x,0,N⟩ a).setCell ⟨x,1,N⟩ b).setCell ⟨x,2,N⟩ c).setCell ⟨x,3,N⟩ d).setCell ⟨x,4,N⟩ e):=
 ((((h.setCell f _).setCell f _).setCell f _).setCell f _).setCell f _
theorem FM B k d R(f j:eV)i(h:dT)(r:eV)(l:dT)(q:n8)w(b:aD B w k d R f j)(a:Sim i R f)(hfull:200<=i.count):
  Calls Yq.prog 60 #[O (J ⟨k,0,N⟩),U h,Rd #[I K r,U l,C q]] w (cP B k i ⟨4,0,⟨#[]⟩⟩ w d R j):=by
 have hlim:=a.NW;have hc:=a.count;have HH:=bJ b a;go_enter (Yq.nq func60),ntmps60;go_wp2_with fail
 refine(nT B k d R f j _ ((HH.o.1.alloc _).alloc _) (ie R a.full) (by omega)).m ?_;rintro e w1 ⟨rfl,rfl⟩;go_wp2_with fail
 refine(fx 4 _).m ?_;rintro e w2 ⟨rfl,n⟩;have⟨u,A,s,y,z,c⟩:=(JN (w.alloc (E #[I K r,U l,C q] 137)) (w.heap.size+1) (by simp) 53).on n;have g0:=c 0;have g1:=c 1;have g2:=c 2;have g3:=c 3;have g4:=c 4;unfold aG;go_wp2;refine Sl (v:=aG ⟨4,0,⟨#[]⟩⟩) (by simp[results,results60,go_sem,aG,u,A,s,y,z]) Q ⟨Q,?_⟩;have p:=dZ (aq ((((bR _ w).alloc Q0 _).alloc (by simp) _).t (n.m (by simp;omega)))).o (x:=w.heap.size+1) (by omega) (I K 4) (I K 0) (U ⟨#[]⟩) (M N 0 0) (U ⟨#[]⟩);exact⟨d,R,f,HH.o.1.below p,HH.o.2,cw b.lt p _ _⟩
theorem aD.Ow{j}{R}{l:eV}(a:aD B w k j R tm l){T:Sm}(h:∃c z,w.heap[x]?=J (E c T z))(h1:T≠147)(h2:T≠137):
  j.ownBlock≠J x/\∀e∈R,e.v.ownBlock≠J x:=by
 constructor;obtain⟨-,⟨rfl,-⟩|⟨g,i,b,rfl,-,m,-⟩⟩:=a.row;simp[R3];intro e;simp[R3]at e
 grind
 intro n d;obtain⟨-,⟨f,-⟩|⟨g,i,b,f,-,m,-⟩⟩:=a.NL n d;rw[f];simp[R3];rw[f];intro e;simp[R3]at e
 grind
theorem aD.old{R}{i c:eV}(a:aD B w k b R i c)(h:w.heap.size<=x):x≠k/\b.ownBlock≠J x/\∀e∈R,e.v.ownBlock≠J x:=
 ⟨by have:=a.lt;omega,λe=>by have:=(a.row.lt x e).2;omega,λe d f=>by have:=((a.NL e d).lt x f).2;omega⟩
theorem bU.after{i}{R R'}(a:Below w.heap.size w w')(f:k<w.heap.size)(c:bU w' W k i R v R'):bU w W k i R v R':=
 ⟨c.os.t a.os,c.tape.t a.tape,c.output.t a.output,lT a.size c.size,λb l o q p=>(c.block b (lL l a.size) o q p).t (a.block b l),
  λj n=>(c.cells j n).t (cB (a.block k f)),λj=>(c.frozen j).t (fB (a.block k f)),λb h=>c.own b (lL h a.size)⟩
theorem ru.frame{c}{R R'}(h:ru x W)(i:bU W w1 k f R c R')(d:x≠k/\f.ownBlock≠J x/\∀e∈R,e.v.ownBlock≠J x):ru x w1:=by
 have b:=i.block x h.lt d.1 d.2.1 d.2.2;exact⟨(cB b).t h.c0,(cB b).t h.c1,(cB b).t h.c2,(cB b).t h.c3,(cB b).t h.c4,λj=>(fB (a:=⟨x,j,N⟩) b).t (h.fz j)⟩
theorem JO{h}{R R'}{i o:eV}(f:aD B w k p R tm o)(A:Below w.heap.size w w')(D:w.heap.size<=x)(q:x<w'.heap.size)(n:∃m z,w'.heap[x]?=J (E m 53 z))(H':aD B W k h R' i o)(F:bU w' W k p R h R')a b c d e:
  aD B (((((W.setCell ⟨x,0,N⟩ a).setCell ⟨x,1,N⟩ b).setCell ⟨x,2,N⟩ c).setCell ⟨x,3,N⟩ d).setCell ⟨x,4,N⟩ e) k h R' i o /\
  bU w (((((W.setCell ⟨x,0,N⟩ a).setCell ⟨x,1,N⟩ b).setCell ⟨x,2,N⟩ c).setCell ⟨x,3,N⟩ d).setCell ⟨x,4,N⟩ e) k p R h R':=by
 have⟨r,G,u⟩:=f.old D;have t:=H'.Ow (x:=x) (T:=53) (by rw[(F.block x q r G u)];exact n) (by decide) (by decide);have s:=kQ W x a b c d e;refine⟨H'.grown s (by simpa using r) (R9 t.1) (λy v=>R9 (t.2 y v)),(bU.after A f.lt F).step s (λb' h1 h2=>?_) H'.lt (by simpa using r)⟩
 grind
def Mid(B k:H)(tm:eV)(st:St)(key d:dT)(f:n8)(w:Wj)(sl:Wx)(R:S bz)(c:Wj)(i:H):Prop:=
 ∃a R1,∃hi:i<R1.length,aD B c k a R1 (st.last+1+1) tm/\(∀j (hj:j<R1.length),j≠i->R1[j].h≠[])/\R1.length<=1000/\R1[i].h.length<=1000/\ru (w.heap.size+1) c /\
  bB c w.heap.size (I K (st.last+1)) (U d) (C f)/\bU w c k sl R sl R/\w.heap.size+2<=c.heap.size /\
  (∀l,Sim (ce st key d f) (R1.set i ⟨R1[i].key,R1[i].h++[⟨st.last+1,d,f⟩],l⟩) (st.last+1+1)) /\
  (∀b,b<w.heap.size+2->a.ownBlock=J b->b<w.heap.size/\sl.ownBlock=J b)/\(∀e∈R1,∀b,e.v.ownBlock=J b->b<w.heap.size/\∃e'∈R,e'.v.ownBlock=J b)
theorem sO{d c}{R R'}(h:bU w w' k d R c R')v(_hk:k<w'.heap.size):bU w (w'.setCell ⟨k,0,N⟩ v) k d R c R':=
 ⟨h.os,h.tape,h.output,by simpa[World.setCell]using h.size,λb m f n l=>(Ra f).t (h.block b m f n l),
  λj i=>(cO w' ⟨k,0,N⟩ ⟨k,j,N⟩ v (λe=>by have:=gI Addr.off e;simp only at this;omega)).t (h.cells j i),λj=>(by simp:(w'.setCell ⟨k,0,N⟩ v).frozen? ⟨k,j,N⟩=w'.frozen? ⟨k,j,N⟩).t (h.frozen j),h.own⟩
theorem sP(R:S bz)(i:H)(a:i<R.length):R[i].h.length<=totR R:=by
 have h2:=nS R (i+1);have h3:=xD R i a;omega
theorem I3{r:eV}{f m:dT}{d:Wx}{R:S bz}(c:aD B w k d R r tm)(a:Sim l R r)(v:¬200<=l.count)(p:i<R.length)(s:R[i].key=f)
  (X:aD B w' k d R (l.last+1+1) tm/\ru (w.heap.size+1) w'/\bB w' w.heap.size (I K (l.last+1)) (U m) (C mk)/\bU w w' k d R d R/\w'.heap.size=w.heap.size+2):Mid B k tm l f m mk w d R w' i:=by
 have h1:=ie R a.full;have h2:=a.NW;have h3:=sP R i p;refine⟨d,R,p,X.1,λj t _=>a.full _ (tn t),by omega,by omega,X.2.1,X.2.2.1,X.2.2.2.1,by omega,λu=>a.PG p s m mk u v,λb _ h=>⟨(c.row.lt b h).2,h⟩,λe q b h=>⟨((c.NL e q).lt b h).2,e,q,h⟩⟩
theorem Mp{f L:dT}{R}(d:aD B w k p R nx tm)(c:Sim u R nx)(hc:¬200<=u.count)(G:∀x∈R,x.key≠f)
  (X:aD B w' k p R (u.last+1+1) tm/\ru (w.heap.size+1) w'/\bB w' w.heap.size (I K (u.last+1)) (U L) (C mk)/\bU w w' k p R p R/\w'.heap.size=w.heap.size+2) (o:Obj)  {n:H}
  (ho:W.ownsRow B 147 2 (M (J ⟨g,0,N⟩) (R.length+1) n) (R.length+1) (aB R++[U f,M N 0 0])) (l:(w'.alloc o).grownBy W p.ownBlock) (T:p.ownBlock=J g\/g=w'.heap.size+1):
  Mid B k tm u f L mk w p R (W.setCell ⟨k,0,N⟩ (M (J ⟨g,0,N⟩) (R.length+1) n)) R.length:=by
 obtain⟨X1,X2,X3,X4,X5⟩:=X;have h1:=ie R c.full;have h2:=c.NW;have hk:=d.lt;have V:aB (R++[⟨f,[],M N 0 0⟩])=aB R++[U f,M N 0 0]:=by unfold aB;rw[RG];rfl
 have i:(R++[⟨f,[],M N 0 0⟩]:S bz).length=R.length+1:=by simp
 have m:∀ (h:R.length<(R++[⟨f,[],M N 0 0⟩]:S bz).length),(R++[⟨f,[],M N 0 0⟩]:S bz)[R.length]=⟨f,[],M N 0 0⟩:=λh=>by simp
 have z:=λb q=>(d.row.lt b q).2
 have P:(R++[⟨f,[],M N 0 0⟩]:S bz).Pairwise (λa b=>a.v.ownBlock≠b.v.ownBlock):=by
  rw[uc];refine⟨X1.pw,Rm _ _,λa ha b q=>?_⟩;simp at q;subst q;exact pu (X1.NL a ha) (xb.2 (c.full a ha))
 have aa:p.ownBlock=J g\/(w'.alloc o).heap.size<=g:=by
  rcases T with h|h
  grind
  simp_all
 have F:=(X1.alloc o).put0 (g:=g) (sl':=M (J ⟨g,0,N⟩) (R.length+1) n) (R':=R++[⟨f,[],M N 0 0⟩]) l (by rw[i,V];exact ho) Q aa
  (λe D=>by
   rcases vf.1 D with h|h
   grind
   simp at h;subst h;exact R9 ⟨Q,Q⟩) P
 have y:=bH W k 0 (M (J ⟨g,0,N⟩) (R.length+1) n);have r:Below w'.heap.size w' (w'.alloc o):=(Q9).alloc Q0 _;have A:p.ownBlock≠J (w.heap.size+1):=λe=>by have:=z _ e;omega
 have t:p.ownBlock≠J w.heap.size:=λe=>by have:=z _ e;omega
 have hsz3:=l.size;have hsza:(w'.alloc o).heap.size=w'.heap.size+1:=by simp
 have hszs:(W.setCell ⟨k,0,N⟩ (M (J ⟨g,0,N⟩) (R.length+1) n)).heap.size=W.heap.size:=by simp[World.setCell]
 refine⟨_,_,by rw[i];omega,F,?_,by rw[i];omega,by rw[m];simp,?_,?_,?_,by omega,?_,?_,?_⟩;intro j hj hji;rw[i]at hj;rw[List.getElem_append_left (by omega)];exact c.full _ (tn _);exact((X2.on r).grown l A).grown y (by simp;omega);exact((X3.on r).grown l t).grown y (by simp;omega);refine sO (((X4.below r X1.lt).step l (λb _ h=>Sa h) (by omega) d.apart)) _ (by omega);intro v';rw[m,Rz _ _ Q0,Nat.sub_self];exact c.Qu G L mk v' hc;intro b q D;simp[R3]at D
 grind
 intro e D b q;rcases vf.1 D with h|h;exact⟨((d.NL e h).lt b q).2,e,h,q⟩;simp at h;subst h;simp[R3]at q
def Put(B k:H)(tm:eV)(c:St)(nx' NP:eV)(d:dT)(f:n8)(w:Wj)(sl:Wx)(R:S bz)(b:Wj):Prop:=
 ∃a R',aD B b k a R' nx' tm/\Sim c R' nx'/\bU w b k sl R a R'/\ru (w.heap.size+1) b/\bB b w.heap.size (I K NP) (U d) (C f)/\w.heap.size+2<=b.heap.size/\a.ownBlock≠J (w.heap.size+1)/\(∀e∈R',e.v.ownBlock≠J (w.heap.size+1))
theorem Mq{q:St}{G u:dT}{R R1:S bz}{F n:H}{X:lj Addr}(hi:i<R1.length)
  (c:aD B w' k (M (J ⟨F,0,N⟩) R1.length t) R1 (q.last+1+1) tm/\ru (w.heap.size+1) w'/\bB w' w.heap.size (I K (q.last+1)) (U u) (C mk)/\bU w w' k V R V R/\R1[i].v=M X R1[i].h.length vc)
  (a:(∀j (hj:j<R1.length),j≠i->R1[j].h≠[])/\(∀v',Sim (ce q G u mk) (R1.set i ⟨R1[i].key,R1[i].h++[⟨q.last+1,u,mk⟩],v'⟩) (q.last+1+1))/\(∀b,b<w.heap.size+2->(R4 (J ⟨F,0,N⟩) R1.length t).ownBlock=J b->b<w.heap.size/\V.ownBlock=J b)/\(∀e∈R1,∀b,e.v.ownBlock=J b->b<w.heap.size/\∃e'∈R,e'.v.ownBlock=J b)/\w.heap.size+2<=w'.heap.size) (o:Obj)
  (ho:W.ownsRow B 137 3 (M (J ⟨g,0,N⟩) (R1[i].h.length+1) n) (R1[i].h.length+1) (aA R1[i].h++[I K (q.last+1),U u,C mk])) (d:(w'.alloc o).grownBy W (R4 X R1[i].h.length vc).ownBlock) (p:(R4 X R1[i].h.length vc).ownBlock=J g\/g=w'.heap.size+1):
  Put B k tm (ce q G u mk) (q.last+1+1) (q.last+1) u mk w V R (W.setCell ⟨F,i*2+1,N⟩ (M (J ⟨g,0,N⟩) (R1[i].h.length+1) n)):=by
 obtain⟨Y1,Y2,Y3,Y4,Y5⟩:=c;obtain⟨Z1,Z2,Z3,Z4,Z5⟩:=a;rw[<-Y5]at d p;have f:=tn hi;have aa:=Y1.lt;have y:Below w'.heap.size w' (w'.alloc o):=(Q9).alloc Q0 _;have hsza:(w'.alloc o).heap.size=w'.heap.size+1:=by simp
 have r:∀b,w.heap.size<=b->R1[i].v.ownBlock≠J b:=λb L e=>by have:=(Z4 _ f b e).1;omega
 have m:∀b,w.heap.size<=b->b<w.heap.size+2->F≠b:=λb h1 T e=>by have:=(Z3 b T (by rw[<-e];rfl)).1;omega
 have hsz3:=d.size;have hszs:(W.setCell ⟨F,i*2+1,N⟩ (M (J ⟨g,0,N⟩) (R1[i].h.length+1) n)).heap.size=W.heap.size:=by simp_all
 have z:=bH W F (i*2+1) (M (J ⟨g,0,N⟩) (R1[i].h.length+1) n);have P:=(Y1.alloc o).QI (v':=M (J ⟨g,0,N⟩) (R1[i].h.length+1) n) (h':=R1[i].h++[⟨q.last+1,u,mk⟩]) hi d (R9 Q) (by rw[mH];simpa using ho)
  (p.elim (λh=>R9 (Sa h.s)) λh=>R9 (R9 ⟨g,Q,by omega⟩)) Z1
 refine⟨_,_,P,Z2 _,?_,((Y2.on y).grown d (r _ (by omega))).grown z (by simpa using m _ (by omega) (by omega)),((Y3.on y).grown d (r _ (by omega))).grown z (by simpa using m _ (by omega) (by omega)),by omega,by simpa[R3]using m _ (by omega) (by omega),?_⟩;refine(((Y4.below y aa).step d (λb L e=>R9 (Z4 _ f b e).2) (by omega) (Y1.NM _ f)).step z (λb L e=>Sa (Z3 b (by omega) e).2) (by omega) (by simpa using(λe=>Y1.apart (by rw[<-e];rfl)))).put λb L h=>?_
 rcases h with h|⟨x,hx,h⟩;exact Rf (Z3 b (by omega) h).2;rcases ke hx with rfl|⟨j,hj,-,rfl⟩;simp[R3]at h;rcases p with T|T;exact Rg (Z4 _ f b (by rw[T,h])).2;omega;exact Rg (Z4 _ (tn hj) b h).2;intro e he;rcases ke he with rfl|⟨j,hj,-,rfl⟩;intro L;simp[R3]at L
 grind
 grind
end
