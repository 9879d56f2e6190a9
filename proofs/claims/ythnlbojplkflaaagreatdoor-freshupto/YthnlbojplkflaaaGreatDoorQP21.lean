/- A part. -/
import Derived.Test.YthnlbojplkflaaaGreatDoorQP19
import Derived.Test.YthnlbojplkflaaaGreatDoorQP20
import Derived.Lib.SlBuf
import Derived.Laws.CopyOwn
import Derived.JoinedCond
set_option maxHeartbeats 4000000
set_option maxRecDepth 100000
open Go.World.ownsRow renaming alloc->dT
open Go.Proofs.Tryz renaming prog->ey,checked->eV,f3->eW
open List renaming getElem_mem->gI,length_set->gL,not_mem_nil->kr,set_append_right->lj,getElem?_map->lk,flatMap_append->nF,replicate->n8,length->pt,mem_cons->sq,pairwise_iff_getElem->sT,getElem_append_right->tb,getElem_append_left->tn,mem_append->uc,drop_of_length_le->vf,length_replicate->vx,getElem?_eq_none->wz,mem_of_mem_take->xb,mem_map_of_mem->xc,take_left'->xt,append_nil->xv,take_take->yz,drop_drop->Rj
open Go.World renaming size_alloc->Rk,grownBy_alloc->Rl,cell?->Rm,frozen?->Rn,size_setCell->Ro,ownsRow_nil->Rp
open Go renaming maxLen->Rq,info_parts->Rr,madeCells->Rt,heap_alloc_new->Ru,run_append_own->Rv,laidMetH->Rw
open Go.Value renaming ownBlock->Rx,oneCell'->Ry,slice->Rz
open _root_ renaming absurd->RB,congrArg->RE,Option->RF,Array->RG,Int->RJ,or_false->RN,if_pos->RQ
open Nat renaming min_eq_left->RU,not_lt_zero->RY,sub_self->RZ,add_zero->R3
open Go renaming World->Wj,Value->Wx,TypeId->Ww,Addr->Wu
namespace Go.Proofs.Qw
open _root_ renaming rfl->Q
open Go.Proofs.Yq renaming prog->Vp
open _root_ renaming Nat->H,List->S
open Option renaming none->N,some->J
open Bool renaming true->Y,false->Z
open Value renaming int->I,string->U,slice->M,pointer->O,bool->C,agg->Rd,tuple->Re
open IntKind renaming i64->K
open Obj renaming cells->E
open Ending renaming returned->Rc
open Or renaming inl->Rf,inr->Rg
open Operand renaming tmp->Rh
variable {b c g i j k n:H}{l v x y:Wx}{D R RI' p:S Wx}{W w:Wj}{T:Ww}
open Tryz
section
open Go.Conc Go.ConcX Go.ConcX.Gen Go.RowKit
theorem xP(Qok:Qy->Prop)(m:∀q,Qok q->jB q/\jC q)(G:Wj->Prop)(N:H)(z:N<2199023255300)(d:∀w',G w'->dH w')(a:∀n b:RJ,0<=n->n<=N->0<=b->b<=N+1->mO G n b):xi Qok MG G N:=
 F7 MG (λh s o v e i t _ r=>CB h s o v e i t r) (λh x o _ hk l s u y p f j k c=>zR h x o hk l s u y p f j k c) Qok m G N z d a
end
section
open Go.RowKit
open Go.Conc Go.ConcX Go.ConcX.Gen
theorem Gm N(d:N<2199023255300):MH GE N:=
 xP AY (λq _=>JS q) GE N d (λ_ h=>h.1) λn b a h2 c h4 l w e=>K3 n b ⟨a,by omega⟩ ⟨c,by omega⟩ l w e.2
end
section
open Go.RowKit
def Di(ops:S OpD):Prop:=∀i (hi:i<ops.length),ops[i].kind=12->∃j,∃hj:j<i,ops[i].src=(j:RJ)/\(ops[j]'(by omega)).kind=11
theorem m7(ops:S OpD)(i:H)(a:i<ops.length):cZ (ops.take (i+1))=g8 (ops.take i) (cZ (ops.take i)) ops[i]:=by
 rw[tS a,mV]
section
variable {ops:List OpD} (hk:∀o∈ops,o.key.size<=maxLen)
include hk
theorem hE i:IW AY (cZ (ops.take i)) (ops.take i).length:=pm (Qok:=AY) (ops.take i) λo a=>⟨xN o,hk o (xb a)⟩
theorem hF i:JT (cZ (ops.take i)):=Jm (Qok:=AY) (ops.take i) λo a=>⟨xN o,hk o (xb a)⟩
theorem xQ(hi:i<ops.length)(m:j<i)(f:ops[i].kind=12)(c:ops[i].src=(j:RJ))(b:(ops[j]'(by omega)).kind=11):
  ja (ops.take i) (cZ (ops.take i)) ops[i]=((cZ (ops.take j)).st,{(cZ (ops.take i)).L with opened:=[],tm:=(cZ (ops.take j)).L.tm},⟨0,0,⟨#[]⟩,[],⟨#[]⟩⟩):=by
 have a:j<ops.length:=by omega
 have e:(ops.take i).length=i:=by grind
 have k:(cZ (ops.take i)).al[j]?=J ⟨0,0,fT (cZ (ops.take j)).st (cZ (ops.take j)).L.tm,[],⟨#[]⟩⟩:=by
  rw[xO (ops.take i) (j+1) j (by omega) (by omega),yz,RU (by omega),m7 ops j a];have h:(cZ (ops.take j)).al.length=j:=by rw[fE,tL];omega
  simp[g8];rw[aR (by omega),h,RZ];simp[ja,nP,NC,b]
 have o:dQ ((ops.take i).map (·.kind)) (cZ (ops.take i)).N1 ops[i].src ops[i].body=fT (cZ (ops.take j)).st (cZ (ops.take j)).L.tm:=by
  unfold dQ;have d:(cZ (ops.take i)).N1.length=i:=by rw[Dk.N1,lM,fE,e]
  rw[c,d,RQ (by omega),Int.toNat_natCast,lk,List.getElem?_take_of_lt m,eL a,Option.map_some,Option.getD_some,RQ b,Dk.N1,lk,k];rfl
 have n:=(hF hk j).tm;have l:=Fy (hE hk j).i (hE hk j).t (hF hk j).s (cZ (ops.take j)).L.tm.toNat (by omega);rw[Int.toNat_of_nonneg n.1]at l;simp only[ja,nP,RQ f,o,dD,l]
omit hk in
theorem te(hi:i<ops.length)(a:ops[i].kind≠12):ja (ops.take i) (cZ (ops.take i)) ops[i]=NC (cZ (ops.take i)).st (cZ (ops.take i)).L (cZ (ops.take i)).Ny ops[i]:=by
 simp only[ja,nP,if_neg a]
theorem M0(d:Di ops):∀n i,i<=n->i<=ops.length->(cZ (ops.take i)).st.last<=i:=λn=>by
  induction n with
  | zero => intro i h _; obtain rfl : i = 0 := by omega
            simp[cZ,jE,dk0,st0]
  |succ n ih=>
    intro i hin e;by_cases b:i<=n
    . exact ih i b e
    . obtain rfl:i=n+1:=by omega
      rw[m7 ops n (by omega)];by_cases a:(ops[n]'(by omega)).kind=12
      . have⟨j,f,c,k⟩:=d n (by omega) a
        show(ja _ _ _).1.last<=_;rw[xQ hk (by omega) f a c k];have:=ih j (by omega) (by omega);show(cZ (ops.take j)).st.last<=_;omega
      . show(ja _ _ _).1.last<=_
        rw[te (by omega) a];have c:=ih n Q0 (by omega);have:=Ga (cZ (ops.take n)).st (cZ (ops.take n)).L (cZ (ops.take n)).Ny (ops[n]'(by omega)) (hE hk n).i.NV;omega
end
structure ZrE (ops:S OpD)(i:H)(Z:S SvE):Prop where
 pw:Z.Pairwise (λa b=>a.at_<b.at_)
 len:Z.length<=i
 ok:∀z∈Z,z.at_<i/\Sim (cZ (ops.take z.at_)).st z.R z.nx/\z.tm=(cZ (ops.take z.at_)).L.tm/\0<=z.tm/\z.tm<=1000*i
 all:∀j (_:j<ops.length),j<i->ops[j].kind=11->∃z∈Z,z.at_=j
section
variable {ops:List OpD} {i:Nat} {Z:List SvE}
theorem ZrE.Nx(h:ZrE ops i Z)(hi:i<ops.length)(hk:ops[i].kind≠11):ZrE ops (i+1) Z:=
 ⟨h.pw,by have:=h.len;omega,λz k=>by have⟨h1,d,b,f,h5⟩:=h.ok z k;exact⟨by omega,d,b,f,by omega⟩,λj c hlt a=>by
  by_cases e:j=i
  .subst e;exact RB a hk
  .exact h.all j c (by omega) a⟩
theorem ZrE.push(h:ZrE ops i Z){R}{k c:RJ}(hS:Sim (cZ (ops.take i)).st R k)(ht:(cZ (ops.take i)).L.tm=c/\0<=c/\c<=1000*i):ZrE ops (i+1) (Z++[⟨i,l,R,k,c⟩]):=by
 refine⟨List.pairwise_append.2 ⟨h.pw,List.pairwise_singleton _ _,λa n b q=>?_⟩,by rw[lP,lS];have:=h.len;omega,λz d=>?_,λj m hlt f=>?_⟩;rw[List.mem_singleton.1 q];exact(h.ok a n).1;rcases uc.1 d with d|d;have⟨p,o,h3,h4,h5⟩:=h.ok z d
 grind
 grind
 by_cases e:j=i
 simp_all
 have⟨z,p,o⟩:=h.all j m (by omega) f
 grind
theorem ZrE.uniq(h:ZrE ops i Z){a:H}(ha:a<Z.length)(hb:b<Z.length)(e:Z[a].at_=Z[b].at_):a=b:=by
 have hp:=sT.1 h.pw
 grind
end
theorem Gn(b y aa ga:H)(ops:S OpD)(zs:S (iU×Wx))(w:Wj)(hS:mP w b y ops)(X:ops.length*88<=140737488351232)(n:zs.map (·.1)=(cZ ops).al)(hA:∀j,j<ops.length*5->w.cell? ⟨ga,j,N⟩=(br zs)[j]?)(hI:∀z∈zs,j6 w z.2 z.1.items)(hk:∀o∈ops,o.key.size<=Rq/\o.fe.size<=140737488351232)(hg:Di ops):
  Calls Vp 7 #[M (J ⟨b,y,N⟩) ops.length aa,M (J ⟨ga,0,N⟩) ops.length ops.length] w λe w'=>e=Rc (C Y)/\Below w.heap.size w w':=by
 have ai:zs.length=ops.length:=by
  have:=RE pt n;rw[lM,fE]at this;exact this
 have F:=λo ho=>(hk o ho).1
 refine Jh b y aa ga ops zs (λi=>((cZ (ops.take i)).st,(cZ (ops.take i)).L)) (ZrE ops) w hS X ai hA (λz n=>?_) Q ⟨List.Pairwise.nil,Q0,λz n=>RB n kr,λj _ h=>RB h (by omega)⟩ ?_;obtain⟨a,c,e,-⟩:=(hI z n).form
 grind
 intro i s V W sl vL vT R nx tm P T hb f hP d SL Z p D vA hK;have A:(ops.take i).length=i:=by grind
 have m:=hE F i;rw[A]at m;have aj:zs[i].1=(ja (ops.take i) (cZ (ops.take i)) ops[i]).2.2:=by
  have u:=xO ops (i+1) i (by omega) s;rw[m7 ops i s,<-n,lk,eL V]at u;have hl:(cZ (ops.take i)).al.length=i:=by rw[fE,A]
  simp[g8]at u
  grind
 have ad:(zs.take i).map (·.1.tok)=(cZ (ops.take i)).Ny:=by
  have⟨r,hr⟩:=qR (ops.take i) (ops.drop i);rw[List.take_append_drop,<-n]at hr;have u:=RE (List.take i) hr;rw[xt (by rw[fE,A]),<-List.map_take]at u;unfold Dk.Ny;rw[<-u,List.map_map];rfl
 rw[ad]at hK;have k:=hI _ (gI V);rw[aj]at k ⊢;have af:(cZ (ops.take i)).Ny.length=i:=by
  grind
 have B:i<2199023255300:=by omega
 simp[m7 ops i s];show Calls _ _ _ W (cQ _ _ (ja _ _ _).1 (ja _ _ _).2.1 _ i W);by_cases q:ops[i].kind=12
 have⟨j,hj,u,h2⟩:=hg i s q;rw[xQ F s hj q u h2]at k ⊢;obtain⟨ia,ic,v,-⟩:=k.form;rw[v];have⟨z,G,ac⟩:=p.all j (by omega) hj h2;obtain⟨jj,ab,rfl⟩:=gM G;obtain⟨-,s1,s2,s3,s4⟩:=p.ok _ G;rw[ac]at s1 s2;have:=Dh (st2:=(cZ (ops.take j)).st) W f hP Q0 SL D (p.Nx s (by omega)) B p.len ops[i] q (λz n=>⟨(p.ok z n).2.1.full,(p.ok z n).2.1.NW⟩) jj ab (by rw[u,ac]) (λa ha e=>p.uniq ha ab e) s1 ⟨s3,s4⟩ ia ic;rw[s2]at this;exact this;rw[te s q]at k ⊢;by_cases x:ops[i].kind=11
 have e:NC (cZ (ops.take i)).st (cZ (ops.take i)).L (cZ (ops.take i)).Ny ops[i]=((cZ (ops.take i)).st,(cZ (ops.take i)).L,⟨0,0,fT (cZ (ops.take i)).st (cZ (ops.take i)).L.tm,[],⟨#[]⟩⟩):=by simp[NC,x]
 rw[e]at k ⊢;obtain⟨ia,ic,v,-⟩:=k.form;rw[v];exact Df W f hP hK Q0 d SL D (λsl' R' hs=>by rw[af];exact p.push (d.same hs) SL.time) B p.len ops[i] x _ ia ic;exact zQ W f hP hK Q0 d SL D (p.Nx s x) m.i (M0 F hg i i Q0 (by omega)) m.t m.l.len B (by omega) ops[i] (by unfold F9;omega) (hk _ (gI s)).2 zs[i].2 (λw' hf=>k.left (ax.below (hf.toPFw.to hb hb.size)))
theorem JU ops(c:Sized ops)(b:∀o∈ops,o.fe.size<=140737488351232):∀o∈dS 12 ops,(o.key.size<=Rq/\o.body.size<=Rq)/\o.fe.size<=140737488351232:=by
 refine Gd ops λl o a=>?_
 unfold ll;split
 exact⟨⟨by simp[Rq];decide,by simp[Rq];decide⟩,by decide⟩;exact⟨c o a,b o a⟩
theorem xR ops:Di (dS 12 ops):=by
 have:∀n,n<=ops.length->Di (dS 12 (ops.take n)):=λn=>by
  induction n with
  |zero=>intro _ i b;simp[dS]at b
  |succ n ih=>
   intro hn i b a;have hl:(dS 12 (ops.take n)).length=n:=by rw[mY,tL];omega
   have e:dS 12 (ops.take (n+1))=dS 12 (ops.take n)++[ll 12 (dS 12 (ops.take n)) ops[n]]:=by rw[tS (by omega),sW]
   have f:∀j (h:j<(dS 12 (ops.take (n+1))).length) (k:j<n),(dS 12 (ops.take (n+1)))[j]=(dS 12 (ops.take n))[j]'(by omega):=λj h k=>by
    grind
   have hi':i<n+1:=by grind
   by_cases d:i<n
   rw[f i b d]at a;have⟨j,hj,h1,k⟩:=(ih (by omega)) i (by omega) a
   grind
   obtain rfl:i=n:=by omega
   have l:(dS 12 (ops.take (i+1)))[i]=ll 12 (dS 12 (ops.take i)) ops[i]:=by
    grind
   rw[l]at a ⊢;unfold ll at a ⊢;split at a
   exact RB a (by decide);rename_i hno;have c:ly (dS 12 (ops.take i)) ops[i]=false:=by
    grind
   unfold ly at c
   grind
 have:=this ops.length Q0
 grind
end
section
open Go.Conc Go.ConcX Go.ConcX.Gen Go.RowKit
def reps(n:H)(x:S Wx):S Wx:=(n8 n x).flatten
theorem fi n x:(reps n x).length=n*x.length:=by simp[reps]
theorem kV n m x:reps n x++reps m x=reps (n+m) x:=by simp[reps,<-List.replicate_append_replicate]
theorem Gp x(h:b<=n):(reps n x).take (b*x.length)=reps b x:=by
 obtain⟨k,rfl⟩:=Nat.exists_eq_add_of_le h;rw[<-kV,xt (fi b x)]
theorem Jn x(hk:k<n)(hc:c<x.length):(reps n x)[k*x.length+c]?=x[c]?:=by
 obtain⟨m,rfl⟩:=Nat.exists_eq_add_of_lt hk;rw[show k+m+1=k+(1+m)by omega,<-kV,aR (by rw[fi];omega),fi,<-kV,Nat.add_sub_cancel_left,List.getElem?_append_left (by rw[fi];omega)];simp[reps]
def Mk1(T:Ww)(x:S Wx)(w:Wj)(v:Wx)(n:H):Prop:=w.ownsRow 0 T x.length v n (reps n x)
section
variable {P:Program}
theorem zS(w:Wj)(p:H)(t L e:Ww)(i:TypeInfo)(z:Wx)(size d:H)(T:P.underlying t=J (.slice e))(V:P.info? e=J i)(hz:i.zero=J z)(l:i.size=size)(s:i.bytes=d)(x:z.cells.size=size)(A:0<size)
  (v:Wx) (n:H) (G:S Wx) (f:w.ownsRow p e size v n G) (a:Wu) (m c:H) (b:S Wx) (R:b.length=m*size) (k:∀j u,b[j]?=J u->w.cell? (a.add j)=J u) (h1:∀u∈b,u.oneCell'=Y)
  (F:n+m<=Rq) (o:(n+m)*d<=140737488355328) (y:p<=w.heap.size):
  ∃v' w',(Builtin.append_ #[t,t] L #[v,.slice (J a) m c]).run P w=.ok v' w'/\w'.ownsRow p e size v' (n+m) (G++b)/\w.grownBy w' v.ownBlock/\((∃g r,v=.slice (J ⟨g,0,N⟩) n r/\v'=.slice (J ⟨g,0,N⟩) (n+m) r)\/w.grownBy w' N/\∀g,v'.ownBlock=J g->w.heap.size<=g):=by
 obtain⟨v',w',X,ho,hg,-⟩:=Rv (P:=P) w p t L e i z size d T V hz l s x A v n G f a m c b R k h1 F o y;refine⟨v',w',X,ho,hg,?_⟩;rcases f.2 with⟨rfl,rfl⟩|⟨g0,r,cur,rfl,hb0,hrow,hcap⟩;obtain⟨v2,w2,q,B,D,-⟩:=Rv (P:=P) w w.heap.size t L e i z size d T V hz l s x A (.slice N 0 0) 0 G ⟨f.1,.inl ⟨rfl,rfl⟩⟩ a m c b R k h1 F o Q0;rw[X]at q;cases q;exact .inr ⟨D,λg h=>(B.lt g h).1⟩;by_cases hf:n+m<=r
 obtain⟨w2,q,-⟩:=run_append_fits (P:=P) w p t L e i size T V l g0 n r G f a m c b R k h1 hf
 grind
 have⟨v2,w2,q,B,D⟩:=run_append_arg_grows (P:=P) w t L e i z size d T V hz l s x A ⟨g0,0,N⟩ n r G f.1 (λj u hj=>f.cells (g:=g0) rfl j u hj) a m c b R k (by omega) F o;rw[X]at q;cases q;exact .inr ⟨D,λg h=>(B.lt g h).1⟩
theorem fy(w:Wj){ops:RG Oper}{A:S Oper}{o:Oper}{a:Act}{d:Exit->Act->Wj->Prop}(X:o.guard=N)(s y:Operand)(t:Ww)
  (ho:o.op=.call {callee:=.builtin .append,args:=#[s,y],argTypes:=#[t,t]})
  (e:Ww) (i:TypeInfo) (z:Wx) (p:H) (x:S Wx) (ht:P.underlying t=J (.slice e)) (hi:P.info? e=J i) (hz:i.zero=J z)
  (B:i.size=x.length) (aj:i.bytes=p) (ap:z.cells.size=x.length) (R:0<x.length)
  (v:Wx) (n:H) (hs:a.eval s=v) (r:Mk1 e x w v n)
  (ad:Wu) (m c:H) (hx:a.eval y=.slice (J ad) m c) (D:∀j u,(reps m x)[j]?=J u->w.cell? (ad.add j)=J u) (h1:∀u∈x,u.oneCell'=Y)
  (af:n+m<=Rq) (q:(n+m)*p<=140737488355328)
  (h:∀v' w',Mk1 e x w' v' (n+m)->w.grownBy w' v.ownBlock->(v'.ownBlock=v.ownBlock\/∀g,v'.ownBlock=J g->w.heap.size<=g)->(∀u k,Mk1 e x w u k->k<=n+m->Mk1 e x w' u k)->wpList P ops d A (a.put o.dst v') w'):wpList P ops d (o::A) a w:=by
 have al:∀u∈reps m x,u.oneCell'=true:=λu T=>by
  have⟨l,hl,T⟩:=List.mem_flatten.1 T
  grind
 obtain⟨v',w',hr,h2,h3,G⟩:=zS (P:=P) w 0 t o.type e i z x.length p ht hi hz B aj ap R v n _ r ad m c (reps m x) (fi m x) D al af q Q8;rw[kV]at h2;refine Lib.wpList_append_run w X s y t t ho v _ hs hx v' w' hr (h v' w' h2 h3 ?_ λu k T hk=>?_);rcases G with⟨g,L,rfl,rfl⟩|⟨-,G⟩;exact .inl rfl
 grind
 rcases T.2 with⟨rfl,rfl⟩|⟨g,L,ai,rfl,hb,hg,c1,c2,c3,c4⟩;exact⟨fi 0 x,.inl ⟨rfl,rfl⟩⟩;have F:=(eS hg).1;by_cases f:w'.heap[g]?=w.heap[g]?
 exact bG T λb hb=>by
  obtain rfl:g=b:=by simpa[Rx]using hb
  exact f
 rcases G with⟨g',cap',rfl,rfl⟩|⟨G,-⟩;obtain rfl:g'=g:=by
  by_cases e:g'=g
  exact e;exact RB (h3.block g F (by simpa[Rx]usingλh=>e h.s)) f
 rcases r.2 with⟨e,-⟩|⟨_,_,cu,e,-,aa,-,-,u3,-⟩;cases e;cases e;rcases h2.2 with⟨e,-⟩|⟨_,_,V,e,-,ab,d1,d2,d3,d4⟩;cases e;cases e;rw[hg]at aa;obtain rfl:ai=cu:=by grind
 have ac:=Nat.eq_of_mul_eq_mul_right R (c3.s.t u3);subst ac;refine⟨fi k x,.inr ⟨g',L,V,rfl,Q8,ab,c1,c2,d3,?_⟩⟩;rw[<-Gp x hk,<-d4,yz,RU (Nat.mul_le_mul_right _ hk)];exact RB (G.block g F (by simp)) f
end
def iX(m:H):S Wx:=[I K 0,U ⟨#[]⟩,I K (77+m:H)]
def aX(m:H):S Wx:=[I K 0,I K (77+m:H),U ⟨#[]⟩,M N 0 0,U ⟨#[]⟩]
theorem sets3 a b c(d:R.length=j)(e:3<=D.length):(((R++D).set j a).set (j+1) b).set (j+2) c=R++([a,b,c]++D.drop 3):=by
 subst d
 match D,e with
 |d0::d1::d2::D,_=>simp[lj]
theorem sets5 a b c d e(f:R.length=j)(h:5<=D.length):(((((R++D).set j a).set (j+1) b).set (j+2) c).set (j+3) d).set (j+4) e=R++([a,b,c,d,e]++D.drop 5):=by
 subst f
 match D,h with
 |d0::d1::d2::d3::d4::D,_=>simp[lj]
theorem fM{d:Wj}(h:d.grownBy w (J g))j v:d.grownBy (w.setCell ⟨g,j,N⟩ v) (J g):=aJ h ⟨Q,Q,Q,by simp,λb _ c=>Ra (λe=>c (by rw[e]))⟩
theorem iy(w:Wj)(a:S Wx)(T:Ww):∀j u,a[j]?=J u->(w.alloc (E a.toArray T)).cell? ((⟨w.heap.size,0,N⟩:Wu).add j)=J u:=by
 intro j u hj;rw[Addr.add_lit,cA (w:=w) _ _ w.heap.size _ Q]
 grind
structure lA (T Ts:Ww)(X:H->S Wx)(w:Wj)(v:Wx)(R:S Wx):Prop where
 own:w.ownsRow 0 Ts 1 v R.length R
 full:∀i (_:i<R.length),∃n,Mk1 T (X (i/4)) w R[i] n
def InH(v:Wx)(R:S Wx)(b:H):Prop:=v.ownBlock=J b\/∃u∈R,u.ownBlock=J b
theorem eI{a size}(h:w.ownsRow a T size v n D)(b:v.ownBlock=J g):∃c,w.heap[g]?=J (E c T (0,0)):=by
 rcases h.2 with⟨rfl,-⟩|⟨e,cap,cur,rfl,-,hr,-⟩;cases b;obtain rfl:e=g:=by simpa[Rx]using b
 grind
section
variable {T Ts:Ww} {X:Nat->List Wx} {w w':Wj} {v v':Wx} {R ns:List Wx}
theorem lA.Nx(h:lA T Ts X w v R)(hk:∀b,InH v R b->w'.heap[b]?=w.heap[b]?):lA T Ts X w' v R:=
 ⟨bG h.own λg a=>hk g (Rf a),λi c=>(h.full i c).imp λ_ d=>bG d λg a=>hk g (Rg ⟨_,gI c,a⟩)⟩
theorem lA.ty(h:lA T Ts X w v R)(d:InH v R b):∃c a,w.heap[b]?=J (E c a (0,0))/\(a=Ts/\v.ownBlock=J b\/a=T/\∃u∈R,u.ownBlock=J b):=by
 rcases d with d|⟨u,e,d⟩;have⟨c,f⟩:=eI h.own d
 grind
 obtain⟨i,j,rfl⟩:=gM e;have⟨n,k⟩:=h.full i j;have⟨c,f⟩:=eI k d
 grind
theorem lA.push(h:lA T Ts X w v R)(hT:T≠Ts)(h4:R.length%4=0)(hn:ns.length=4)(f:∀u∈ns,∃n,Mk1 T (X (R.length/4)) w u n)(j:w'.ownsRow 0 Ts 1 v' (R.length+4) (R++ns))(l:w.grownBy w' v.ownBlock):lA T Ts X w' v' (R++ns):=by
 have k:(R++ns).length=R.length+4:=by grind
 have hk:∀ {u:Wx} {x:S Wx} {n:H},Mk1 T x w u n->Mk1 T x w' u n:=fun{u x n} d=>bG d λg b=>by
  have⟨c,m⟩:=eI d b;refine l.block g (eS m).1 λe=>?_
  have⟨c',hc'⟩:=eI h.own e.s
  grind
 refine⟨by rw[k];exact j,λi hi=>?_⟩;by_cases a:i<R.length
 rw[tn a];exact(h.full i a).imp λ_=>hk
 rw[tb (by omega),show i/4=R.length/4 by omega];exact(f _ (gI _)).imp λ_=>hk
end
structure ci (w:Wj)(k:H)(vA vI:Wx)(RA RI:S Wx):Prop where
 box:w.heap[k]?=J (E #[vA,vI] 29)
 a:lA 53 30 aX w vA RA
 i:lA 67 51 iX w vI RI
def Bk(k:H)(vA vI:Wx)(RA RI:S Wx)(b:H):Prop:=b=k\/InH vA RA b\/InH vI RI b
section
variable {w w':Wj} {k:Nat} {vA vI:Wx} {RA RI:List Wx}
theorem ci.Nx(h:ci w k vA vI RA RI)(hk:∀b,Bk k vA vI RA RI b->w'.heap[b]?=w.heap[b]?):ci w' k vA vI RA RI:=
 ⟨(hk k (Rf Q)).t h.box,h.a.Nx λb c=>hk b (Rg (Rf c)),h.i.Nx λb c=>hk b (Rg (Rg c))⟩
theorem ci.lt(h:ci w k vA vI RA RI)(e:Bk k vA vI RA RI b):b<w.heap.size:=by
 rcases e with rfl|e|e;exact(eS h.box).1;obtain⟨c,d,f,-⟩:=h.a.ty e
 grind
 obtain⟨c,d,f,-⟩:=h.i.ty e
 grind
theorem ci.left(h:ci w k vA vI RA RI)(a:ax w w'):ci w' k vA vI RA RI:=h.Nx λb c=>a.block b (h.lt c)
theorem ci.noI(h:ci w k vA vI RA RI){size}(m:w.ownsRow 0 67 size l n p)(q:l.ownBlock=J g)(hf:∀u∈RI,u.ownBlock≠J g):¬Bk k vA vI RA RI g:=by
 have⟨c,j⟩:=eI m q;rintro(rfl|f|f);have:=h.box;rw[j]at this;simp at this;obtain⟨o,b,d,e|e⟩:=h.a.ty f <;> · rw[j,e.1]at d;simp at d
 obtain⟨o,b,d,⟨rfl,e⟩|⟨-,u,hu,e⟩⟩:=h.i.ty f
 grind
 grind
theorem ci.noA(h:ci w k vA vI RA RI){size}(m:w.ownsRow 0 53 size l n p)(q:l.ownBlock=J g)(hf:∀u∈RA,u.ownBlock≠J g):¬Bk k vA vI RA RI g:=by
 have⟨c,j⟩:=eI m q;rintro(rfl|f|f);have:=h.box;rw[j]at this;simp at this;obtain⟨o,b,d,⟨rfl,e⟩|⟨-,u,hu,e⟩⟩:=h.a.ty f
 grind
 grind
 obtain⟨o,b,d,e|e⟩:=h.i.ty f <;> · rw[j,e.1]at d;simp at d
theorem Gq(h:w.heap[k]?=J (E #[x,y] 29))v:(w.setCell ⟨k,0,N⟩ v).heap[k]?=J (E #[v,y] 29)/\(w.setCell ⟨k,1,N⟩ v).heap[k]?=J (E #[x,v] 29):=by
 constructor <;> · show(w.heap.modify k _)[k]?=_;grind
theorem ci.QK{ns}(h:ci w k vA vI RA RI)(z:RI.length%4=0)(A:ns.length=4)(x:∀u∈ns,∃n,Mk1 67 (iX (RI.length/4)) w u n)(y:w'.ownsRow 0 51 1 v (RI.length+4) (RI++ns))(r:w.grownBy w' vI.ownBlock):ci (w'.setCell ⟨k,1,N⟩ v) k vA v RA (RI++ns):=by
 have o:=h.i.push (by decide) z A x y r;have p:∀ (b:H) (c:RG Wx) (d:Ww),w.heap[b]?=J (E c d (0,0))->d≠51->w'.heap[b]?=w.heap[b]?:=λb c d f q=>by
  refine r.block b (eS f).1 λe=>?_
  have⟨c',hc'⟩:=eI h.i.own e.s
  grind
 have hk:=(p k _ _ h.box (by decide)).t h.box;refine⟨(Gq hk v).2,h.a.Nx λb m=>?_,o.Nx λb j=>?_⟩;have⟨c,d,f,q⟩:=h.a.ty m;have l:d≠51/\d≠29:=by grind
 rw[Ra (show b≠k fromλe=>?_),p b c d f l.1]
 grind
 have⟨c,d,f,q⟩:=o.ty j;refine Ra (show b≠k fromλe=>?_)
 grind
theorem ci.QH{ns}(h:ci w k vA vI RA RI)(z:RA.length%4=0)(A:ns.length=4)(x:∀u∈ns,∃n,Mk1 53 (aX (RA.length/4)) w u n)(y:w'.ownsRow 0 30 1 v (RA.length+4) (RA++ns))(r:w.grownBy w' vA.ownBlock):ci (w'.setCell ⟨k,0,N⟩ v) k v vI (RA++ns) RI:=by
 have o:=h.a.push (by decide) z A x y r;have p:∀ (b:H) (c:RG Wx) (d:Ww),w.heap[b]?=J (E c d (0,0))->d≠30->w'.heap[b]?=w.heap[b]?:=λb c d f q=>by
  refine r.block b (eS f).1 λe=>?_
  have⟨c',hc'⟩:=eI h.a.own e.s
  grind
 have hk:=(p k _ _ h.box (by decide)).t h.box;refine⟨(Gq hk v).1,o.Nx λb j=>?_,h.i.Nx λb m=>?_⟩;have⟨c,d,f,q⟩:=o.ty j;refine Ra (show b≠k fromλe=>?_)
 grind
 have⟨c,d,f,q⟩:=h.i.ty m;have l:d≠30/\d≠29:=by grind
 rw[Ra (show b≠k fromλe=>?_),p b c d f l.1]
 grind
end
end
section
open Go.RowKit
theorem zT{P:Program}(w:Wj)(n B q b:Ww)(g d h:H)(a:Wu)(e k m s:H)(c:RG Wx)(t:Ww)(cs:S Wx)
  (p:P.underlying n=J (.slice b)) (r:(P.info? b).map (·.size)=J s)
  (u:w.heap[g]?=J (.cells c t (0,0))) (z:Nat.min e d=m) (y:cs.length=m*s)
  (l:∀j v,cs[j]?=J v->w.cell? (a.add j)=J v) (f:cs.length<=c.size) (A:∀v∈cs,v.oneCell'=Y):
  (Builtin.copy_ #[n,B] q #[.slice (J ⟨g,0,N⟩) d h,.slice (J a) e k]).run P w=.ok (goInt m) (w.setRow g (cs++c.toList.drop cs.length).toArray):=by
 cases o:P.info? b with
 |none=>simp[o]at r
 |some i=>
  have x:i.size=s:=by grind
  simp[Builtin.copy_,run_underlying p,Builtin.lenOf,Builtin.firstCells,sizeOf,typeInfo,o,x,z,<-y,run_loadCells_list (P:=P) w a cs l,(run_storeCells_at P g 0 t cs 0 c w u (by simpa using f) A)]
def zO:OpD:=⟨0,⟨#[]⟩,⟨#[]⟩,⟨#[]⟩,⟨#[]⟩,0,0⟩
def mkO:OpD:=⟨77,⟨#[]⟩,⟨#[]⟩,⟨#[]⟩,⟨#[]⟩,0,0⟩
theorem LD n k:(Rt #[I K 0,U ⟨#[]⟩,U ⟨#[]⟩,U ⟨#[]⟩,U ⟨#[]⟩,I K 0,I K 0] ((n+k)*7)).toList.drop (n*7)=(n8 k zO).flatMap aK:=by
 refine List.ext_getElem? λj=>?_
 have hl:((n8 k zO).flatMap aK).length=k*7:=by rw[cF 7 _ (λ_=>Q),vx]
 by_cases hj:j<k*7
 .have d:j=j/7*7+j%7:=by omega
  have a:=fv (n8 k zO) (j/7) (j%7) (by rw[vx];omega) (by omega);rw[<-d,(List.getElem_replicate _)]at a;rw[a,List.getElem?_drop];have c:(n*7+j)%7=j%7:=by omega
  simp only[Rt,Array.toList_map,Array.toList_range,lk,List.getElem?_range (show n*7+j<(n+k)*7 by omega),Option.map_some];generalize j%7=r at *;have b:(#[I K 0,U ⟨#[]⟩,U ⟨#[]⟩,U ⟨#[]⟩,U ⟨#[]⟩,I K 0,I K 0]:RG Wx).size=7:=rfl;rw[b,c];rcases r with - | - | - | - | - | - | - |r;all_goals first|omega|rfl
 rw[wz (by simp[Rt];omega),wz (by omega)]
theorem Gr{l}{ops}{w1}(h:w.ownsRow l 37 7 v n (ops.flatMap aK))(f:w.grownBy w1 N)(i:w.heap.size<=g)
  (L:w1.ownsRow w.heap.size 37 7 (M (J ⟨g,0,N⟩) (n+2) (n+2)) (n+2) (Rt #[I K 0,U ⟨#[]⟩,U ⟨#[]⟩,U ⟨#[]⟩,U ⟨#[]⟩,I K 0,I K 0] ((n+2)*7)).toList):
  ∃z,(Builtin.copy_ #[22,22] 3 #[M (J ⟨g,0,N⟩) (n+2) (n+2),v]).run Vp w1=.ok (goInt n) z/\z.ownsRow w.heap.size 37 7 (M (J ⟨g,0,N⟩) (n+2) (n+2)) (n+2) ((ops++[zO,zO]).flatMap aK)/\Below w.heap.size w z:=by
 have p:ops.length=n:=by have:=h.1;rw[cF 7 _ (λ_=>Q)]at this;omega
 have d:Below w.heap.size w w1:=⟨f.os,f.tape,f.output,f.size,λb d=>f.block b d (by simp)⟩;rcases L.2 with⟨e,-⟩|⟨g',cap,a,e,hb1,c,h2,F,h4,R⟩;cases e;cases e;have j:a.toList=(Rt #[I K 0,U ⟨#[]⟩,U ⟨#[]⟩,U ⟨#[]⟩,U ⟨#[]⟩,I K 0,I K 0] ((n+2)*7)).toList:=by rw[<-R,tO (by simp;omega)]
 have⟨i0,x,hz0,y,hz2⟩:=Rr Yq.OY;have m:(Yq.prog.info? 37).map (·.size)=J 7:=by rw[x];simp[y]
 have k:((ops++[zO,zO]).flatMap aK)=ops.flatMap aK++a.toList.drop (ops.flatMap aK).length:=by
  rw[j,h.1,LD,nF];rfl
 by_cases A:n=0/\v.ownBlock=N
 obtain⟨rfl,t⟩:=A;obtain rfl:=List.eq_nil_of_length_eq_zero p;have r:v=M N 0 0:=by
  rcases h.2 with⟨e,-⟩|⟨q,B,T,rfl,-⟩;exact e;simp[Rx]at t
 subst r;refine⟨w1,run_copy_nil (P:=Vp) w1 _ _ _ 37 ⟨g,0,N⟩ _ _ (Yq.u underlying22) (by rw[m];rfl),?_,d⟩
 grind
 rcases h.2 with⟨rfl,rfl⟩|⟨q,B,T,rfl,-,s,-⟩;exact RB ⟨rfl,rfl⟩ A;have G:=bG h λb d=>by
  obtain rfl:q=b:=by simpa[Rx]using d
  exact f.block q ((eS s).1) (by simp)
 refine⟨_,zT (P:=Vp) w1 _ _ _ 37 g (n+2) (n+2) ⟨q,0,N⟩ n B n 7 a _ (ops.flatMap aK) (Yq.u underlying22) m c (RU (by omega)) h.1 (G.cells Q) (by rw[h.1];omega) (λv t=>?_),⟨?_,Rg ⟨g,n+2,_,Q,i,setRow_heap w1 g a _ _ _ c,Q0,F,?_,?_⟩⟩,?_⟩;obtain⟨o,-,D⟩:=List.mem_flatMap.1 t;exact one7 o v D;rw[cF 7 _ (λ_=>Q),lP,p];rfl;rw[<-k,lZ,cF 7 _ (λ_=>Q),lP,p];rfl;rw[<-k,tO (by rw[cF 7 _ (λ_=>Q),lP,p];exact Q0)];exact below_setRow d i _
theorem cR{size a}(h:w.ownsRow b T size (M (J ⟨g,0,N⟩) n a) n D)(i:D[j]?=J x):w.cell? ⟨g,j,N⟩=J x/\w.frozen? ⟨g,j,N⟩=false:=by
 have d:=h.cells (g:=g) Q j x i;rw[Addr.add_lit,zA]at d;obtain⟨c,k⟩:∃c,w.heap[g]?=J (E c T (0,0)):=by
  rcases h.2 with⟨e,-⟩|⟨g',a,cur,e,-,hr,-⟩;cases e
  grind
 exact⟨d,by simp[Rn,k]⟩
theorem Gt{ops}(b:ops.length=n):(((ops++[zO,zO]).flatMap aK).set (n*7) (I K 77)).set ((n+1)*7) (I K 77)=(ops++[mkO,mkO]).flatMap aK:=by
 have a:(ops.flatMap aK).length=n*7:=by rw[cF 7 _ (λ_=>Q),b]
 rw[nF,nF,lj _ _ (by omega),lj _ _ (by omega),a,RZ,show(n+1)*7-n*7=7 by omega];rfl
theorem th v n i ops w(h:w.ownsRow i 37 7 v n (ops.flatMap aK))(hn:n*88<=140737488350000):
  Calls Vp 5 #[v] w λe w'=>∃g,e=Rc (M (J ⟨g,0,N⟩) n (n+2))/\w'.ownsRow w.heap.size 37 7 (M (J ⟨g,0,N⟩) (n+2) (n+2)) (n+2) ((ops++[mkO,mkO]).flatMap aK)/\Below w.heap.size w w':=by
 have⟨B,m,l,p,j⟩:=Rr Yq.OY;have q:ops.length=n:=by have:=h.1;rw[cF 7 _ (λ_=>Q)]at this;omega
 obtain⟨va,vc,rfl,k⟩:=ao h;have HX:=aq h;have HL:=aq q;have z:∀c x,(aK zO)[c]?=J x->((ops++[zO,zO]).flatMap aK)[n*7+c]?=J x/\((ops++[zO,zO]).flatMap aK)[(n+1)*7+c]?=J x:=λc x y=>by
  have A:=(sL y).1;have h1:=fv (ops++[zO,zO]) n c (by simp;omega) A;have h2:=fv (ops++[zO,zO]) (n+1) c (by simp;omega) A
  grind
 have HJ:=aq z;have hne1:¬n*7=(n+1)*7:=by omega
 have hne2:¬(n+1)*7=n*7:=by omega
 clear h k q z;go_enter (Yq.nq func5),ntmps5;go_wp2_with (first
  |(at_make;refine wpList_make_full _ Q _ _ 22 Q w.heap.size 37 B _ 7 (Yq.u underlying22) m l p _ _ _ _ (n+2) Q Q (by omega) (by omega) (by rw[j];omega) (by simp[Rq];omega) Q0 ?_;intro w1 f d)
  |(have⟨w2,r,a,s⟩:=Gr HX.o d Q0 f;refine Lib.wpList_copy_run _ Q (Rh 10) (Rh 11) 22 22 Q _ _ Q Q r ?_;clear r f d;obtain⟨L,G⟩:=cR a (HJ.o 0 _ Q).1;obtain⟨D,F⟩:=cR a (HJ.o 0 _ Q).2;have HO:=bJ a s;clear a s;simp at L G D F))
 go_ret;refine⟨_,Q,?_,?_⟩;rw[<-Gt HL.o];have y:=HO.o.1.1;exact fg (fg HO.o.1 _ (by omega) _) _ (by rw[gL];omega) _;exact HO.o.2.t ⟨Q,Q,Q,by simp,λb hb=>by rw[Ra (by show b≠w.heap.size;omega),Ra (by show b≠w.heap.size;omega)]⟩
theorem Na(a:RJ)b c d e(f g:RJ)w:(binOp .neq 37 (Rd #[I K a,U b,U c,U d,U e,I K f,I K g]) (Rd #[I K a,U b,U c,U d,U e,I K f,I K g])).run Vp w=.ok (C Z) w:=by
 have h1:Yq.prog.stoodInHeld 37=false:=by kernel_rfl
 go_simp
theorem LE(x y:Operand)(a b:RG Wx)w:(eqGuard .neq 37 x y (Rd a) (Rd b)).run Vp w=.ok () w:=run_eqGuard_agg w _ _ _ _ _ _ (by kernel_rfl)
theorem m8{ops:S OpD}(h:w.ownsRow b 37 7 (M (J ⟨g,0,N⟩) n j) n (ops.flatMap aK))(f:i<ops.length):w.cell? ⟨g,i*7,N⟩=J (I K ops[i].kind)/\w.cell? ⟨g,i*7+1,N⟩=J (U ops[i].key)/\w.cell? ⟨g,i*7+2,N⟩=J (U ops[i].body) /\
  w.cell? ⟨g,i*7+3,N⟩=J (U ops[i].fe)/\w.cell? ⟨g,i*7+4,N⟩=J (U ops[i].past)/\w.cell? ⟨g,i*7+5,N⟩=J (I K ops[i].n)/\w.cell? ⟨g,i*7+6,N⟩=J (I K ops[i].src):=by
 have a:∀c x,(aK ops[i])[c]?=J x->w.cell? ⟨g,i*7+c,N⟩=J x:=λc x e=>(cR h ((fv ops i c f (sL e).1).t e)).1
 exact⟨a 0 _ Q,a 1 _ Q,a 2 _ Q,a 3 _ Q,a 4 _ Q,a 5 _ Q,a 6 _ Q⟩
theorem xS g n F G L(D:RF Wu)ops w(h:w.ownsRow G 37 7 (M (J ⟨g,0,N⟩) (n+2) (n+2)) (n+2) ((ops++[mkO,mkO]).flatMap aK))(x:w.ownsRow L 37 7 (M D n F) n (ops.flatMap aK))(hn:n*88<=140737488350000):
  Calls Vp 10 #[M (J ⟨g,0,N⟩) n (n+2),M D n F] w λe w'=>e=Rc (C Y)/\Below w.heap.size w w':=by
 have B:ops.length=n:=by have:=x.1;rw[cF 7 _ (λ_=>Q)]at this;omega
 obtain⟨b,-⟩:=m8 h (i:=n) (by simp;omega);obtain⟨c,-⟩:=m8 h (i:=n+1) (by simp;omega);rw[tb (by omega)]at b c;simp[show n-ops.length=0 by omega,show n+1-ops.length=1 by omega]at b c;have HM:=bJ b c;have hq1:=Na;have hq2:=LE;have HO:=eM h x B;clear h x B b c;go_enter (Yq.nq func10),ntmps10;go_wp2_with fail
 go_loopw [6] (λs6 wr=>∃i:H,i<=n/\s6=I K i/\Below w.heap.size w wr) (λs6 _=>n-(intOf s6).toNat)
 case atStart=>exact⟨0,Q8,Q,Q9⟩
 case round=>
  obtain⟨i,hin,rfl,a⟩:=hrel;by_cases t:i<n
  .have d:i<ops.length:=by rw[HO.o.2.2];exact t
   obtain⟨gs,cs,e,-⟩:=bm HO.o.2.1 (by omega);cases e;have⟨l,q,f,j,p,k,m⟩:=m8 HO.o.1 (i:=i) (by simp;omega);rw[tn d]at l q f j p k m;have⟨s,z,r,u,y,v,A⟩:=m8 HO.o.2.1 d;generalize ops[i]=o at *;obtain⟨kind,key,body,fe,past,nn,src⟩:=o;simp only at l q f j p k m s z r u y v A;replace l:=ag a l;replace q:=ag a q;replace f:=ag a f;replace j:=ag a j;replace p:=ag a p;replace k:=ag a k;replace m:=ag a m;replace s:=ag a s;replace z:=ag a z;replace r:=ag a r;replace u:=ag a u;replace y:=ag a y;replace v:=ag a v;replace A:=ag a A;have HB:=aq a;clear a;go_wp2_with fail
   go_quiet (fail)
   go_wp2_with fail
   exact⟨⟨i+1,by omega,by go_num,below_drewN HB.o _⟩,by simp[intOf];omega⟩
  obtain rfl:i=n:=by omega
  have b:=ag a HM.o.1;have c:=ag a HM.o.2;go_wp2_with fail
  go_ret;exact⟨Q,a⟩
end
section
open Go.Conc Go.ConcX Go.ConcX.Gen Go.RowKit
theorem Yq.OZ:(Yq.prog.info? 51).map (λi=>(i.zero,i.size,i.bytes))=J (J (M N 0 0),1,24):=by kernel_rfl
structure Chg (w w':Wj)(S:H->Prop):Prop where
 os:w'.os=w.os
 size:w.heap.size<=w'.heap.size
 block:∀b,b<w.heap.size->¬S b->w'.heap[b]?=w.heap[b]?
theorem Gu k n vA vI l RA RI R w(hB:ci w k vA vI RA RI)(hl:w.ownsRow 0 67 3 l n R)(hf:∀g,l.ownBlock=J g->∀u∈RI,u.ownBlock≠J g)(h4:RI.length%4=0)(hn:n<=1000000000)(hR:RI.length<=1000000000):
  Calls Vp 13 #[O (J ⟨k,0,N⟩),l] w λe w'=>e=Rc (Re #[])/\∃ab l1 l2 l3,ci w' k vA ab RA (RI++[l,l1,l2,l3])/\Chg w w' (λb=>b=k\/vI.ownBlock=J b\/l.ownBlock=J b)/\(∀g,ab.ownBlock=J g->vI.ownBlock=J g\/w.heap.size<=g)/\∀u∈[l1,l2,l3],∀g,u.ownBlock=J g->l.ownBlock=J g\/w.heap.size<=g:=by
 have⟨i0,D,F,G,z⟩:=Rr Yq.Od;obtain⟨T,P,rfl,-⟩:=ao hB.i.own;obtain⟨la,V,rfl,-⟩:=ao hl;have bx1:w.cell? ⟨k,1,N⟩=J (M T RI.length P):=by simp[Rm,hB.box]
 have hk:=(eS hB.box).1;have HH:=eM hB hl hf;clear hB hl hf;go_enter (Yq.nq func13),ntmps13;go_wp2_with fail
 have hM:(77+(RI.length:RJ)/4)=((77+RI.length/4:H):RJ):=by omega
 rw[hM];clear hM;obtain⟨x,hx⟩:∃x,x=iX (RI.length/4):=⟨_,Q⟩;have j:x.length=3:=by rw[hx];rfl
 generalize hM:((77+RI.length/4:H):RJ)=d;have r:x=[I K 0,U ⟨#[]⟩,I K d]:=by rw[hx,<-hM];rfl
 generalize p:w.alloc (E #[I K 0,U ⟨#[]⟩,I K d] 67)=W0;have A:Hid (W0.heap.size=w.heap.size+1):=by show _=_;rw[<-p];simp
 have ai:Hid (W0.ownsRow 0 67 3 (M la n V) n R):=by rw[<-p];exact HH.o.2.1.alloc _
 have HX:Hid (∀wr,W0.grownBy wr (Rz la n V).ownBlock->(wr.cell? ⟨w.heap.size,0,N⟩=J (I K 0)/\wr.cell? ⟨w.heap.size,1,N⟩=J (U ⟨#[]⟩)/\wr.cell? ⟨w.heap.size,2,N⟩=J (I K d))):=λwr m=>by
  have e:wr.heap[w.heap.size]?=J (E #[I K 0,U ⟨#[]⟩,I K d] 67):=by
   rw[m.block _ (by have:=A.o;omega) (λe=>by have:=(HH.o.2.1.lt _ e.s).2;omega),<-p];exact Ru w _
  simp[Rm,e]
 go_loopw [5] (λs5 wr=>∃i:H,i<=n/\s5=I K i/\wr.ownsRow 0 67 3 (M la n V) n (reps i x++R.drop (i*3))/\W0.grownBy wr (Rz la n V).ownBlock/\wr.heap.size=W0.heap.size) (λs5 _=>n-(intOf s5).toNat)
 case atStart=>exact⟨0,Q8,Q,by simpa[reps]using ai.o,⟨Q,Q,Q,Q0,λ_ _ _=>Q⟩,Q⟩
 case round=>
  obtain⟨i,hin,rfl,f,m,v⟩:=hrel;have⟨x0,x1,x2⟩:=HX.o wr m;by_cases ac:i<n
  .obtain ⟨g,cap,e,-⟩:=bm f (by omega);cases e;have ap:=HH.o.2.1.1;have hj:∀c,c<3->∃y,(reps i x++R.drop (i*3))[i*3+c]?=J y:=λc hc=>⟨_,eL (by rw[lP,fi,j,lD];omega)⟩
   have⟨y0,h0⟩:=hj 0 (by omega);have⟨y1,h1⟩:=hj 1 (by omega);have⟨y2,h2⟩:=hj 2 (by omega);have⟨c0,f0⟩:=cR f h0;have⟨c1,f1⟩:=cR f h1;have⟨c2,f2⟩:=cR f h2;simp only[R3]at c0 f0;have HO:=eM f m v;clear f m v h0 h1 h2 hj;go_wp2_with fail
   refine⟨⟨i+1,by omega,by go_num,?_,fM (fM (fM HO.o.2.1 _ _) _ _) _ _,by simpa using HO.o.2.2⟩,by simp[intOf];omega⟩;have e:reps (i+1) x++R.drop ((i+1)*3)=(((reps i x++R.drop (i*3)).set (i*3) (I K 0)).set (i*3+1) (U ⟨#[]⟩)).set (i*3+2) (I K d):=by
    rw[sets3 _ _ _ (by rw[fi,j]) (by rw[lD];omega),Rj,<-kV,pA,show i*3+3=(i+1)*3 by omega,r];rfl
   rw[e];have hll:(reps i x++R.drop (i*3)).length=n*3:=HO.o.1.1;exact fg (fg (fg HO.o.1 _ (by omega) _) _ (by rw[gL];omega) _) _ (by rw[gL,gL];omega) _
  .obtain rfl:i=n:=by omega
   have L:Mk1 67 x wr (M la i V) i:=by
    have ap:=HH.o.2.1.1;rw[vf (by omega),xv]at f;unfold Mk1;rw[j];exact f
   have h1:∀u∈x,u.oneCell'=true:=by rw[r];simp[Ry]
   have HZ:=aq v;clear f v
   go_upto_region 6 with(at_builtin;refine fy _ Q _ _ 51 Q 67 i0 _ 32 x (Yq.u underlying51) D F (G.t j.s) z j.s (by omega) _ i Q (dT L _) ⟨wr.heap.size,0,N⟩ 1 1 Q (by rw[r];exact iy wr _ _) h1 (by simp only[Rq];omega) (by omega) ?_;intro v1 w1 m1 g1 b1 k1)
   have q1:=aJ (aJ m (Rl wr _ _)) g1;have l1:=k1 _ _ (dT L _) (by omega);have s1:=g1.size;clear x0 x1 x2 L g1 k1;have⟨x0,x1,x2⟩:=HX.o w1 q1;obtain⟨a1,c1,rfl,-⟩:=ao m1
   go_upto_region 7 with(at_builtin;refine fy _ Q _ _ 51 Q 67 i0 _ 32 x (Yq.u underlying51) D F (G.t j.s) z j.s (by omega) _ i Q (dT l1 _) ⟨w1.heap.size,0,N⟩ 2 2 Q (by rw[r];exact iy w1 _ _) h1 (by simp only[Rq];omega) (by omega) ?_;intro v2 w2 m2 g2 b2 k2)
   have q2:=aJ (aJ q1 (Rl w1 _ _)) g2;have l2:=k2 _ _ (dT l1 _) (by omega);have aa:=k2 _ _ (dT m1 _) (by omega);have s2:=g2.size;clear x0 x1 x2 g2 k2 l1 m1;have⟨x0,x1,x2⟩:=HX.o w2 q2;obtain⟨a2,c2,rfl,-⟩:=ao m2
   go_upto_region 8 with(at_builtin;refine fy _ Q _ _ 51 Q 67 i0 _ 32 x (Yq.u underlying51) D F (G.t j.s) z j.s (by omega) _ i Q (dT l2 _) ⟨w2.heap.size,0,N⟩ 3 3 Q (by rw[r];exact iy w2 _ _) h1 (by simp only[Rq];omega) (by omega) ?_;intro v3 w3 m3 g3 b3 k3)
   have q3:=aJ (aJ q2 (Rl w2 _ _)) g3;have l3:=k3 _ _ (dT l2 _) (by omega);have a0:=k3 _ _ (dT aa _) (by omega);have av:=k3 _ _ (dT m2 _) (by omega);have s3:=g3.size;clear x0 x1 x2 g3 k3 l2 m2 aa;obtain⟨a3,c3,rfl,-⟩:=ao m3;have B:ci w3 k vA (M T RI.length P) RA RI:=HH.o.1.Nx λb X=>by
    have ac:=HH.o.1.lt X;rw[q3.block b (by have:=A.o;omega) (λe=>HH.o.1.noI HH.o.2.1 e.s (HH.o.2.2 b e.s) X),<-p];exact Rb ac
   have bx3:w3.cell? ⟨k,1,N⟩=J (M T RI.length P):=by simp[Rm,B.box]
   have⟨j0,aj,al,ad,ar⟩:=Rr Yq.OZ;have q:∀a,ci (w3.alloc a) k vA (M T RI.length P) RA RI:=λa=>B.Nx λb X=>Rb (B.lt X)
   have HK:Hid (∀a w4 v4,Gb (w3.alloc a) (M T RI.length P) w4 v4->w4.cell? ⟨k,1,N⟩=J (M T RI.length P)/\w4.frozen? ⟨k,1,N⟩=Z):=λa w4 v4 m=>by
    have e:w4.heap[k]?=J (E #[vA,M T RI.length P] 29):=(m.1.block k ((q a).lt (Rf Q)) (λe=>by
     have⟨c,hc⟩:=eI (q a).i.own e.s;rw[(q a).box]at hc;simp at hc)).t (q a).box
    simp[Rm,Rn,e]
   go_wp2_with (at_builtin;refine fC _ Q _ _ 27 Q 0 51 j0 _ 1 24 (Yq.u underlying27) aj al ad ar Q (by decide) _ RI.length RI Q (q _).i.own ⟨w3.heap.size,0,N⟩ 4 4 [M la i V,M a1 (i+1) c1,M a2 (i+2) c2,M a3 (i+3) c3] Q Q (iy w3 _ _) (by simp[Ry]) (by simp only[Rq];omega) (by omega) Q8 ?_;intro v4 w4 o4 g4;obtain⟨d1,e1⟩:=HK.o _ _ _ g4;obtain⟨a4,c4,rfl,-⟩:=ao o4)
   have hs0:=A.o;have hz:=HZ.o;have af:=g4.1.size;simp only[Rk]at s1 s2 s3 af;go_end0;refine⟨Q,_,_,_,_,(q _).QK h4 Q (λu hu=>?_) o4 g4.1,⟨?_,?_,λb X hS=>?_⟩,λg m=>(g4.2 g m).imp id λh=>?_,λu hu g m=>?_⟩
   .rw [<-hx];simp only[sq,kr,RN]at hu;rcases hu with rfl|rfl|rfl|rfl
    .exact ⟨_,dT l3 _⟩
    .exact ⟨_,dT a0 _⟩
    .exact ⟨_,dT av _⟩
    .exact ⟨_,dT m3 _⟩
   .show w4.os=w.os;rw[g4.1.os];exact q3.os.t (by rw[<-p];rfl)
   .simp only[Ro];omega
   .rw [Ra (show b≠k fromλe=>hS (Rf e)),g4.1.block b (by simp only[Rk];omega) (λe=>hS (Rg (Rf e.s))),Rb (by omega),q3.block b (by omega) (λe=>hS (Rg (Rg e.s))),<-p,Rb X]
   .simp only[Rk]at h;omega
   .simp only[sq,kr,RN]at hu;rcases hu with rfl|rfl|rfl
    .rcases b1 with e|e
     .exact Rf (e▸m)
     .have:=e g m;simp only[Rk]at this;exact Rg (by omega)
    .rcases b2 with e|e
     .exact Rf (e▸m)
     .have:=e g m;simp only[Rk]at this;exact Rg (by omega)
    .rcases b3 with e|e
     .exact Rf (e▸m)
     .have:=e g m;simp only[Rk]at this;exact Rg (by omega)
theorem Yq.Pg:(Yq.prog.info? 30).map (λi=>(i.zero,i.size,i.bytes))=J (J (M N 0 0),1,24):=by kernel_rfl
structure ko (w:Wj)(l:Wx)(zs:S (iU×Wx)):Prop where
 own:w.ownsRow 0 53 5 l zs.length (br zs)
 rows:∀z∈zs,w.ownsRow 0 67 3 z.2 z.1.items.length (az z.1.items)
 pw:zs.Pairwise λa b=>∀g,a.2.ownBlock=J g->b.2.ownBlock≠J g
def InO(l:Wx)(zs:S (iU×Wx))(b:H):Prop:=l.ownBlock=J b\/∃z∈zs,z.2.ownBlock=J b
theorem ko.Nx{w'}{zs}(h:ko w l zs)(hk:∀b,InO l zs b->w'.heap[b]?=w.heap[b]?):ko w' l zs:=
 ⟨bG h.own λg a=>hk g (Rf a),λz c=>bG (h.rows z c) λg a=>hk g (Rg ⟨z,c,a⟩),h.pw⟩
theorem ko.lt{zs}(h:ko w l zs)(a:InO l zs b):b<w.heap.size:=by
 rcases a with a|⟨z,c,a⟩;exact(h.own.lt b a).2;exact((h.rows z c).lt b a).2
theorem ko.ne{zs:S (iU×Wx)}(h:ko w l zs)(c:i<zs.length)(b:j<i)(a:zs[i].2.ownBlock=J g)(d:zs[j].2.ownBlock=J g):False:=
 sT.1 h.pw j i (by omega) c b g d a
structure AnI (k:H)(vA vI:Wx)(RA RI:S Wx)(zs:S (iU×Wx))(w wr:Wj)(i:H)(v:Wx)(R:S Wx):Prop where
 bk:ci wr k vA v RA R
 len:R.length=RI.length+4*i
 O9:Chg w wr λb=>b=k\/vI.ownBlock=J b\/∃j,∃hj:j<zs.length,j<i/\zs[j].2.ownBlock=J b
 vi:∀g,v.ownBlock=J g->vI.ownBlock=J g\/w.heap.size<=g
 ri:∀u∈R,∀g,u.ownBlock=J g->(∃u'∈RI,u'.ownBlock=J g)\/(∃j,∃hj:j<zs.length,j<i/\zs[j].2.ownBlock=J g)\/w.heap.size<=g
section
variable {k:Nat} {vA vI l:Wx} {RA RI:List Wx} {zs:List (iU×Wx)} {w:Wj}
theorem AnI.zero(h:ci w k vA vI RA RI):AnI k vA vI RA RI zs w w 0 vI RI:=
 ⟨h,by omega,⟨Q,Q0,λ_ _ _=>Q⟩,λ_ h=>Rf h,λu b _ a=>Rf ⟨u,b,a⟩⟩
theorem AnI.own{wr}(h:AnI k vA vI RA RI zs w wr i v R)(m:ci w k vA vI RA RI)(e:ko w l zs):wr.ownsRow 0 53 5 l zs.length (br zs):=
 bG e.own λg f=>h.O9.block g (e.own.lt g f).2 λd=>by
  have⟨c,b⟩:=eI e.own f;rcases d with rfl|d|⟨j,n,-,d⟩
  .rw [m.box]at b;simp at b
  .have ⟨o,a⟩:=eI m.i.own d;rw[a]at b;simp at b
  .obtain ⟨o,a⟩:=eI (e.rows _ (gI n)) d;rw[a]at b;simp at b
theorem AnI.row{wr:Wj}(h:AnI k vA vI RA RI zs w wr i v R)(o:ci w k vA vI RA RI)(b:ko w l zs)(e:i<zs.length):wr.ownsRow 0 67 3 zs[i].2 zs[i].1.items.length (az zs[i].1.items):=
 bG (b.rows _ (gI e)) λg n=>h.O9.block g ((b.rows _ (gI e)).lt g n).2 λa=>by
  obtain⟨c,d⟩:=eI (b.rows _ (gI e)) n;rcases a with rfl|a|⟨j,hj,m,a⟩
  .rw [o.box]at d;simp at d
  .have ⟨c',f⟩:=eI o.i.own a;rw[f]at d;simp at d
  .exact b.ne e m n a
theorem AnI.fresh{wr:Wj}(h:AnI k vA vI RA RI zs w wr i v R)(m:ko w l zs)(n:∀z∈zs,∀g,z.2.ownBlock=J g->∀u∈RI,u.ownBlock≠J g)(f:i<zs.length):∀g,zs[i].2.ownBlock=J g->∀u∈R,u.ownBlock≠J g:=λg d u o e=>by
 rcases h.ri u o g e with⟨p,b,c⟩|⟨j,hj,a,c⟩|h'
 .exact n _ (gI f) g d p b c
 .exact m.ne f a d c
 .have:=((m.rows _ (gI f)).lt g d).2;omega
theorem AnI.next{wr w':Wj}{v' o:Wx}(h:AnI k vA vI RA RI zs w wr i v R)(hi:i<zs.length)(r:ci w' k vA v' RA (R++[zs[i].2,x,l,o]))(n:Chg wr w' (λb=>b=k\/v.ownBlock=J b\/zs[i].2.ownBlock=J b))(q:∀g,v'.ownBlock=J g->v.ownBlock=J g\/wr.heap.size<=g)(hu:∀u∈[x,l,o],∀g,u.ownBlock=J g->zs[i].2.ownBlock=J g\/wr.heap.size<=g):AnI k vA vI RA RI zs w w' (i+1) v' (R++[zs[i].2,x,l,o]):=by
 have s:=h.O9.size;refine⟨r,by rw[lP,h.len];simp;omega,⟨n.os.t h.O9.os,lT s n.size,λb e hS=>?_⟩,λg m=>?_,λu d g m=>?_⟩;rw[n.block b (by omega) λa=>?_,h.O9.block b e λa=>?_]
 grind
 rcases a with a|a|a
 grind
 rcases h.vi b a with c|c
 grind
 omega
 grind
 rcases q g m with c|c;exact h.vi g c
 grind
 rcases uc.1 d with p|p;rcases h.ri u p g m with c|⟨j,hj,hji,c⟩|c
 grind
 grind
 grind
 grind
end
def Nl(k:H)(vA vI l:Wx)(RA RI:S Wx)(zs:S (iU×Wx))(w w':Wj):Prop:=
 ∃a c RA' RI',ci w' k a c RA' RI'/\RA'.length=RA.length+4/\RI'.length=RI.length+4*zs.length/\Chg w w' (λb=>b=k\/vA.ownBlock=J b\/vI.ownBlock=J b\/InO l zs b) /\
  (∀g,a.ownBlock=J g\/c.ownBlock=J g->vA.ownBlock=J g\/vI.ownBlock=J g\/w.heap.size<=g)/\∀u,u∈RA'\/u∈RI'->∀g,u.ownBlock=J g->(∃d,(d∈RA\/d∈RI)/\d.ownBlock=J g)\/InO l zs g\/w.heap.size<=g
theorem qT k vA vI l RA RI zs w(hB:ci w k vA vI RA RI)(hO:ko w l zs)(bd:∀z∈zs,∀g,z.2.ownBlock=J g->∀u∈RI,u.ownBlock≠J g)(a9:∀g,l.ownBlock=J g->∀u∈RA,u.ownBlock≠J g)(X:RA.length%4=0)(af:RI.length%4=0)(hn:zs.length<=100000000)(bb:∀z∈zs,z.1.items.length<=1000000000)(hR:RA.length<=100000000)(a8:RI.length<=100000000):
  Calls Vp 8 #[O (J ⟨k,0,N⟩),l] w λe w'=>e=Rc (Re #[])/\Nl k vA vI l RA RI zs w w':=by
 have⟨i0,av,a0,a5,aj⟩:=Rr Yq.On;obtain⟨n,ai⟩:∃n,n=zs.length:=⟨_,Q⟩;have h:=hO.own;rw[<-ai]at h;obtain⟨la,lc,rfl,-⟩:=ao h;have HH:=ig hB hO bd a9;have HN:=eM ai af bb;rw[<-ai]at hn;clear hB hO bd a9 h ai af bb;go_enter (Yq.nq func8),ntmps8;go_wp2_with fail
 go_loopw [4] (λs4 wr=>∃ (i:H) (v:Wx) (R:S Wx),i<=n/\s4=I K i/\AnI k vA vI RA RI zs w wr i v R) (λs4 _=>n-(intOf s4).toNat)
 case atStart=>exact⟨0,_,_,Q8,Q,AnI.zero HH.o.1⟩
 case round=>
  obtain⟨i,v,R,hin,rfl,B⟩:=hrel;have h:=B.own HH.o.1 HH.o.2.1;rw[<-HN.o.1]at h;by_cases ad:i<n
  .have A:i<zs.length:=by rw[<-HN.o.1];exact ad
   obtain⟨g,bw,e,-⟩:=bm h (by omega);cases e;have c3:=(cR h (i6 zs i A).2.2.2.1).1;have al:=B.len;have af:=HN.o.2.1;have HI:=Gu k zs[i].1.items.length vA v zs[i].2 RA R (az zs[i].1.items) wr B.bk (B.row HH.o.1 HH.o.2.1 A) (B.fresh HH.o.2.1 HH.o.2.2.1 A) (by omega) (HN.o.2.2 _ (gI A)) (by omega);obtain⟨ta,tc,bv,-⟩:=ao (B.row HH.o.1 HH.o.2.1 A);have HA:=bJ B A;have bi:Hid (∀w' v' l1 l2 l3,ci w' k vA v' RA (R++[zs[i].2,l1,l2,l3])->Chg wr w' (λb=>b=k\/v.ownBlock=J b\/zs[i].2.ownBlock=J b)->(∀g,v'.ownBlock=J g->v.ownBlock=J g\/wr.heap.size<=g)->(∀u∈[l1,l2,l3],∀g,u.ownBlock=J g->zs[i].2.ownBlock=J g\/wr.heap.size<=g)->∃R',AnI k vA vI RA RI zs w w' (i+1) v' R'):=λw' v' l1 l2 l3 T h2 h3 X=>⟨_,B.next A T h2 h3 X⟩
   clear B h al af;generalize zs[i].2=sv at *;generalize zs[i].1.items.length=m at *;subst bv;go_wp2_with fail
   refine HI.m ?_;clear HI;rintro e w' ⟨rfl,v',l1,l2,l3,T,h2,h3,X⟩;obtain⟨R',a8⟩:=bi.o _ _ _ _ _ T h2 h3 X;clear T h2 h3 X;go_wp2_with fail
   exact⟨⟨i+1,_,_,by omega,by go_num,a8⟩,by simp[intOf];omega⟩
  .obtain rfl:i=n:=by omega
   obtain⟨V,rfl⟩:∃V,V=wr:=⟨_,Q⟩;obtain⟨aa,ac,rfl,-⟩:=ao B.bk.a.own;have bx0:V.cell? ⟨k,0,N⟩=J (M aa RA.length ac):=by simp[Rm,B.bk.box]
   have hk:=B.bk.lt (Rf Q);have HT:=bJ B h;clear B h
   go_upto_region 5 with fail
   have hM:(77+(RA.length:RJ)/4)=((77+RA.length/4:H):RJ):=by omega
   rw[hM];clear hM;obtain⟨x,hx⟩:∃x,x=aX (RA.length/4):=⟨_,Q⟩;have q:x.length=5:=by rw[hx];rfl
   generalize hM:((77+RA.length/4:H):RJ)=f;have P:x=[I K 0,I K f,U ⟨#[]⟩,M N 0 0,U ⟨#[]⟩]:=by rw[hx,<-hM];rfl
   generalize D:V.alloc (E #[I K 0,I K f,U ⟨#[]⟩,M N 0 0,U ⟨#[]⟩] 53)=W0;have ap:Hid (W0.heap.size=V.heap.size+1):=by show _=_;rw[<-D];simp
   have bn:Hid (W0.ownsRow 0 53 5 (M la i lc) i (br zs)):=by rw[<-D];exact HT.o.2.alloc _
   have HX:Hid (∀L,W0.grownBy L (Rz la i lc).ownBlock->(L.cell? ⟨V.heap.size,0,N⟩=J (I K 0)/\L.cell? ⟨V.heap.size,1,N⟩=J (I K f)/\L.cell? ⟨V.heap.size,2,N⟩=J (U ⟨#[]⟩)/\L.cell? ⟨V.heap.size,3,N⟩=J (M N 0 0)/\L.cell? ⟨V.heap.size,4,N⟩=J (U ⟨#[]⟩))):=λL p=>by
    have e:L.heap[V.heap.size]?=J (E #[I K 0,I K f,U ⟨#[]⟩,M N 0 0,U ⟨#[]⟩] 53):=by
     rw[p.block _ (by have:=ap.o;omega) (λe=>by have:=(HT.o.2.lt _ e.s).2;omega),<-D];exact Ru V _
    simp[Rm,e]
   go_wp2_with fail
   go_loopw [6] (λs6 L=>∃j:H,j<=i/\s6=I K j/\L.ownsRow 0 53 5 (M la i lc) i (reps j x++(br zs).drop (j*5))/\W0.grownBy L (Rz la i lc).ownBlock/\L.heap.size=W0.heap.size) (λs6 _=>i-(intOf s6).toNat)
   case atStart=>exact⟨0,Q8,Q,by simpa[reps]using bn.o,⟨Q,Q,Q,Q0,λ_ _ _=>Q⟩,Q⟩
   case round=>
    obtain⟨j,hjn,rfl,h,p,ab⟩:=hrel;have⟨x0,x1,x2,x3,x4⟩:=HX.o wr p;by_cases ad:j<i
    .obtain ⟨g,bw,e,-⟩:=bm h (by omega);cases e;have bq:=HT.o.2.1;have hj:∀c,c<5->∃y,(reps j x++(br zs).drop (j*5))[j*5+c]?=J y:=λc hc=>⟨_,eL (by rw[lP,fi,q,lD];omega)⟩
     have⟨y0,h0⟩:=hj 0 (by omega);have⟨y1,T⟩:=hj 1 (by omega);have⟨y2,h2⟩:=hj 2 (by omega);have⟨y3,h3⟩:=hj 3 (by omega);have⟨y4,X⟩:=hj 4 (by omega);have⟨c0,f0⟩:=cR h h0;have⟨c1,f1⟩:=cR h T;have⟨c2,f2⟩:=cR h h2;have⟨c3,f3⟩:=cR h h3;have⟨c4,f4⟩:=cR h X;simp only[R3]at c0 f0;have HO:=eM h p ab;clear h p ab h0 T h2 h3 X hj;go_wp2_with fail
     refine⟨⟨j+1,by omega,by go_num,?_,fM (fM (fM (fM (fM HO.o.2.1 _ _) _ _) _ _) _ _) _ _,by simpa using HO.o.2.2⟩,by simp[intOf];omega⟩;have b4:5<=((br zs).drop (j*5)).length:=by rw[lD];omega
     have b0:(reps j x).length=j*5:=by rw[fi,q]
     have e:reps (j+1) x++(br zs).drop ((j+1)*5)=(((((reps j x++(br zs).drop (j*5)).set (j*5) (I K 0)).set (j*5+1) (I K f)).set (j*5+2) (U ⟨#[]⟩)).set (j*5+3) (M N 0 0)).set (j*5+4) (U ⟨#[]⟩):=by
      rw[sets5 _ _ _ _ _ b0 b4,Rj,<-kV,pA,show j*5+5=(j+1)*5 by omega,P];rfl
     rw[e];have hll:(reps j x++(br zs).drop (j*5)).length=i*5:=HO.o.1.1;exact fg (fg (fg (fg (fg HO.o.1 _ (by omega) _) _ (by simp only[gL];omega) _) _ (by simp only[gL];omega) _) _ (by simp only[gL];omega) _) _ (by simp only[gL];omega) _
    .obtain rfl:j=i:=by omega
     have a6:Mk1 53 x wr (M la j lc) j:=by
      have bq:=HT.o.2.1;rw[vf (by omega),xv]at h;unfold Mk1;rw[q];exact h
     have T:∀u∈x,u.oneCell'=true:=by rw[P];simp[Ry]
     have HZ:=aq ab;clear h ab
     go_upto_region 10 with(at_builtin;refine fy _ Q _ _ 30 Q 53 i0 _ 72 x (Yq.u underlying30) av a0 (a5.t q.s) aj q.s (by omega) _ j Q (dT a6 _) ⟨wr.heap.size,0,N⟩ 1 1 Q (by rw[P];exact iy wr _ _) T (by simp only[Rq];omega) (by omega) ?_;intro v1 w1 m1 g1 b1 k1)
     have q1:=aJ (aJ p (Rl wr _ _)) g1;have l1:=k1 _ _ (dT a6 _) (by omega);have s1:=g1.size;clear x0 x1 x2 x3 x4 a6 g1 k1;have⟨x0,x1,x2,x3,x4⟩:=HX.o w1 q1;obtain⟨a1,c1,rfl,-⟩:=ao m1
     go_upto_region 11 with(at_builtin;refine fy _ Q _ _ 30 Q 53 i0 _ 72 x (Yq.u underlying30) av a0 (a5.t q.s) aj q.s (by omega) _ j Q (dT l1 _) ⟨w1.heap.size,0,N⟩ 2 2 Q (by rw[P];exact iy w1 _ _) T (by simp only[Rq];omega) (by omega) ?_;intro v2 w2 m2 g2 b2 k2)
     have q2:=aJ (aJ q1 (Rl w1 _ _)) g2;have l2:=k2 _ _ (dT l1 _) (by omega);have a7:=k2 _ _ (dT m1 _) (by omega);have s2:=g2.size;clear x0 x1 x2 x3 x4 g2 k2 l1 m1;have⟨x0,x1,x2,x3,x4⟩:=HX.o w2 q2;obtain⟨a2,c2,rfl,-⟩:=ao m2
     go_upto_region 12 with(at_builtin;refine fy _ Q _ _ 30 Q 53 i0 _ 72 x (Yq.u underlying30) av a0 (a5.t q.s) aj q.s (by omega) _ j Q (dT l2 _) ⟨w2.heap.size,0,N⟩ 3 3 Q (by rw[P];exact iy w2 _ _) T (by simp only[Rq];omega) (by omega) ?_;intro v3 w3 m3 g3 b3 k3)
     have q3:=aJ (aJ q2 (Rl w2 _ _)) g3;have l3:=k3 _ _ (dT l2 _) (by omega);have b5:=k3 _ _ (dT a7 _) (by omega);have bt:=k3 _ _ (dT m2 _) (by omega);have s3:=g3.size;clear x0 x1 x2 x3 x4 g3 k3 l2 m2 a7;obtain⟨a3,c3,rfl,-⟩:=ao m3;have ar:ci w3 k (M aa RA.length ac) v RA R:=HT.o.1.bk.Nx λb hb=>by
      have ad:=HT.o.1.bk.lt hb;rw[q3.block b (by have:=ap.o;omega) (λe=>HT.o.1.bk.noA HT.o.2 e.s (HH.o.2.2.2 b e.s) hb),<-D];exact Rb ad
     have bx3:w3.cell? ⟨k,0,N⟩=J (M aa RA.length ac):=by simp[Rm,ar.box]
     have⟨j0,bo,bp,be,bs⟩:=Rr Yq.Pg;have G:∀d,ci (w3.alloc d) k (M aa RA.length ac) v RA R:=λd=>ar.Nx λb hb=>Rb (ar.lt hb)
     have HK:Hid (∀d w4 v4,Gb (w3.alloc d) (M aa RA.length ac) w4 v4->w4.cell? ⟨k,0,N⟩=J (M aa RA.length ac)/\w4.frozen? ⟨k,0,N⟩=Z):=λd w4 v4 p=>by
      have e:w4.heap[k]?=J (E #[M aa RA.length ac,v] 29):=(p.1.block k ((G d).lt (Rf Q)) (λe=>by
       have⟨c,hc⟩:=eI (G d).a.own e.s;rw[(G d).box]at hc;simp at hc)).t (G d).box
      simp[Rm,Rn,e]
     go_wp2_with (at_builtin;refine fC _ Q _ _ 26 Q 0 30 j0 _ 1 24 (Yq.u underlying26) bo bp be bs Q (by decide) _ RA.length RA Q (G _).a.own ⟨w3.heap.size,0,N⟩ 4 4 [M la j lc,M a1 (j+1) c1,M a2 (j+2) c2,M a3 (j+3) c3] Q Q (iy w3 _ _) (by simp[Ry]) (by simp only[Rq];omega) (by omega) Q8 ?_;intro v4 w4 o4 g4;obtain⟨d1,e1⟩:=HK.o _ _ _ g4;obtain⟨a4,c4,rfl,-⟩:=ao o4)
     have hs0:=ap.o;have hz:=HZ.o;have bl:=g4.1.size;have hsV:=HT.o.1.O9.size;simp only[Rk]at s1 s2 s3 bl;go_end0;refine⟨Q,_,_,_,_,(G _).QH X Q (λu F=>?_) o4 g4.1,by simp,by rw[HT.o.1.len,HN.o.1],⟨?_,?_,λb hb hS=>?_⟩,λg p=>?_,λu F g p=>?_⟩
     .rw [<-hx];simp only[sq,kr,RN]at F;rcases F with rfl|rfl|rfl|rfl
      .exact ⟨_,dT l3 _⟩
      .exact ⟨_,dT b5 _⟩
      .exact ⟨_,dT bt _⟩
      .exact ⟨_,dT m3 _⟩
     .show w4.os=w.os;rw[g4.1.os];exact(q3.os.t (by rw[<-D];rfl)).t HT.o.1.O9.os
     .simp only[Ro];omega
     .rw [Ra (show b≠k fromλe=>hS (Rf e)),g4.1.block b (by simp only[Rk];omega) (λe=>hS (Rg (Rf e.s))),Rb (by omega),q3.block b (by omega) (λe=>hS (Rg (Rg (Rg (Rf e.s))))),<-D,Rb (by omega)];refine HT.o.1.O9.block b hb λbx=>hS ?_
      rcases bx with r|r|⟨m,hm,-,r⟩
      .exact Rf r
      .exact Rg (Rg (Rf r))
      .exact Rg (Rg (Rg (Rg ⟨_,gI hm,r⟩)))
     .rcases p with p|p
      .rcases g4.2 g p with r|r
       .exact Rf r
       .simp only[Rk]at r;exact Rg (Rg (by omega))
      .exact Rg (HT.o.1.vi g p)
     .rcases F with F|F
      .rcases uc.1 F with F|F
       .exact Rf ⟨u,Rf F,p⟩
       .simp only[sq,kr,RN]at F;rcases F with rfl|rfl|rfl|rfl
        .exact Rg (Rf (Rf p))
        .rcases b1 with e|e
         .exact Rg (Rf (Rf (e▸p)))
         .have:=e g p;simp only[Rk]at this;exact Rg (Rg (by omega))
        .rcases b2 with e|e
         .exact Rg (Rf (Rf (e▸p)))
         .have:=e g p;simp only[Rk]at this;exact Rg (Rg (by omega))
        .rcases b3 with e|e
         .exact Rg (Rf (Rf (e▸p)))
         .have:=e g p;simp only[Rk]at this;exact Rg (Rg (by omega))
      .rcases HT.o.1.ri u F g p with⟨u',r,e'⟩|⟨m,hm,-,r⟩|r
       .exact Rf ⟨u',Rg r,e'⟩
       .exact Rg (Rf (Rg ⟨_,gI hm,r⟩))
       .exact Rg (Rg r)
theorem Gv{a:RF Wu}(h:Mk1 T D w (M a n b) n)(f:j<n)(d:D[c]?=J y):∃g,a=J ⟨g,0,N⟩/\w.cell? ⟨g,j*D.length+c,N⟩=J y:=by
 obtain⟨g,cp,e,-⟩:=bm h (by omega);cases e;exact⟨g,Q,(cR h ((Jn D f (sL d).1).t d)).1⟩
theorem JV(h:Mk1 T D w v n):n<=9223372036854775807:=by
 rcases h.2 with⟨-,rfl⟩|⟨g,cap,cur,-,-,-,h1,a,-⟩;omega;simp[Rq]at a;omega
theorem Dj k vA vI RA RI w(h:ci w k vA vI RA RI)(hR:RA.length<=1000000000)(hR':RI.length<=1000000000):
  Calls Vp 9 #[O (J ⟨k,0,N⟩)] w λe w'=>e=Rc (C Y)/\w=w':=by
 obtain⟨x,z,rfl,-⟩:=ao h.a.own;obtain⟨v,B,rfl,-⟩:=ao h.i.own;have bx0:w.cell? ⟨k,0,N⟩=J (M x RA.length z):=by simp[Rm,h.box]
 have bx1:w.cell? ⟨k,1,N⟩=J (M v RI.length B):=by simp[Rm,h.box]
 have HH:=aq h;clear h;go_enter (Yq.nq func9),ntmps9;go_wp2_with fail
 go_loopw [3] (λs3 wr=>∃i:H,i<=RA.length/\s3=I K i/\w=wr) (λs3 _=>RA.length-(intOf s3).toNat)
 case atStart=>exact⟨0,Q8,Q,Q⟩
 case round=>
  obtain⟨i,n,rfl,rfl⟩:=hrel;by_cases b:i<RA.length
  .have ⟨m,d⟩:=HH.o.a.full i b;obtain⟨g,r,e,-⟩:=bm HH.o.a.own (by omega);cases e;have t:=(cR HH.o.a.own (eL b)).1;obtain⟨A,y,f,-⟩:=ao d;rw[f]at t d;have HM:=aq d;have l:=JV d;clear d f;go_wp2_with fail
   go_loopw [4] (λs4 wr=>∃j:H,j<=m/\s4=I K j/\w=wr) (λs4 _=>m-(intOf s4).toNat)
   case atStart=>exact⟨0,Q8,Q,Q⟩
   case round=>
    obtain⟨j,p,rfl,rfl⟩:=hrel;by_cases q:j<m
    obtain⟨u,rfl,s⟩:=Gv (c:=1) HM.o q Q;simp only[show(aX (i/4)).length=5 from Q]at s;go_wp2_with fail
    exact⟨⟨j+1,by omega,by go_num,trivial⟩,by simp[intOf];omega⟩;obtain rfl:j=m:=by omega
    go_wp2_with fail
    exact⟨⟨i+1,by omega,by go_num,trivial⟩,by simp[intOf];omega⟩
  obtain rfl:i=RA.length:=by omega
  go_wp2_with fail
  go_loopw [5] (λs5 wr=>∃i:H,i<=RI.length/\s5=I K i/\w=wr) (λs5 _=>RI.length-(intOf s5).toNat)
  case atStart=>exact⟨0,Q8,Q,Q⟩
  case round=>
   obtain⟨i,n,rfl,rfl⟩:=hrel;by_cases b:i<RI.length
   .have ⟨m,d⟩:=HH.o.i.full i b;obtain⟨g,r,e,-⟩:=bm HH.o.i.own (by omega);cases e;have t:=(cR HH.o.i.own (eL b)).1;obtain⟨A,y,f,-⟩:=ao d;rw[f]at t d;have HM:=aq d;have l:=JV d;clear d f;go_wp2_with fail
    go_loopw [6] (λs6 wr=>∃j:H,j<=m/\s6=I K j/\w=wr) (λs6 _=>m-(intOf s6).toNat)
    case atStart=>exact⟨0,Q8,Q,Q⟩
    case round=>
     obtain⟨j,p,rfl,rfl⟩:=hrel;by_cases q:j<m
     obtain⟨u,rfl,s⟩:=Gv (c:=2) HM.o q Q;simp only[show(iX (i/4)).length=3 from Q]at s;go_wp2_with fail
     exact⟨⟨j+1,by omega,by go_num,trivial⟩,by simp[intOf];omega⟩;obtain rfl:j=m:=by omega
     go_wp2_with fail
     exact⟨⟨i+1,by omega,by go_num,trivial⟩,by simp[intOf];omega⟩
   obtain rfl:i=RI.length:=by omega
   go_wp2_with fail
   go_ret;exact⟨Q,Q⟩
theorem Gw{G:Wj->Prop}(q:MH G c)(T:c<2199023255300)(a:RF Wu)(n f:H)(s:S OpD)(w:Wj)(h:jD w (M a n f) s)(y:n<=c)(P:∀w',ax w w'->G w'):
  Calls Vp 6 #[M a n f] w λe w'=>(∃t zs,e=Rc (M (J ⟨t,0,N⟩) n n)/\ko w' (M (J ⟨t,0,N⟩) n n) zs/\zs.map (·.1)=(cZ s).al/\ax w w'/\∀b,InO (M (J ⟨t,0,N⟩) n n) zs b->w.heap.size<=b)\/Stop AY e w':=by
 have⟨a',cap',R,L⟩:=h.form;cases R;by_cases p:s=[]
 subst p;refine(K6 a f w).m ?_;rintro e w' ⟨g,rfl,D,j⟩;refine Rf ⟨g,[],Q,⟨?_,λz l=>RB l kr,.nil⟩,Q,ax.below j,λb k=>?_⟩;exact ba D Q8;rcases k with k|⟨z,l,-⟩;exact(D.lt b k).1
 grind
 obtain⟨b,u,rfl,x⟩:=L p;refine(Fq AY MG G c q b u f s w P x h.sized y T (λo _=>xN o) (λ_ _=>trivial)).m ?_;rintro e w' (⟨A,zs,rfl,r,i,d,v,F⟩|hst);have B:zs.length=s.length:=by
  have:=RE pt r
  rwa [lM,fE]at this
 refine Rf ⟨w.heap.size,zs,Q,⟨?_,λz l=>(d.1 z l).1,d.2⟩,r,F,λb j=>?_⟩;rw[B];exact ba i Q8;rcases j with j|⟨z,l,j⟩;exact(i.lt b j).1;have:=v b ((d.1 z l).2 b j);omega
 grind
theorem Bl(a:RF Wu)(n c i:H)(s:S OpD)(zs:S (iU×Wx))(w:Wj)(h:jD w (M a n c) s)(x:n*88<=140737488351232)(q:ko w (M (J ⟨i,0,N⟩) n n) zs)(k:zs.map (·.1)=(cZ s).al)(hk:∀o∈s,o.key.size<=Rq/\o.fe.size<=140737488351232)(u:Di s):
  Calls Vp 7 #[M a n c,M (J ⟨i,0,N⟩) n n] w λe w'=>e=Rc (C Y)/\Below w.heap.size w w':=by
 have⟨a',cap',t,v⟩:=h.form;cases t;by_cases f:s=[]
 subst f;exact Gc a c i w;obtain⟨b,l,rfl,m⟩:=v f;have p:zs.length=s.length:=by
  have:=RE pt k
  rwa [lM,fE]at this
 have d:=q.own;rw[p]at d;exact Gn b l c i s zs w m x k (λj r=>d.cellAt j r) (λz k=>po (q.rows z k)) hk u
structure FrI (k n n':H)(W wr:Wj)(r:H)(vA vI:Wx)(RA RI:S Wx):Prop where
 bk:ci wr k vA vI RA RI
 la:RA.length=r*8
 li:RI.length=r*(4*n+4*n')
 O9:Chg W wr λb=>k<=b
 up:∀g,vA.ownBlock=J g\/vI.ownBlock=J g->k<=g
theorem Jo{vA vI}{RA RI}{zs}(h:ci w k vA vI RA RI)(a:∀b,InO l zs b->w.heap.size<=b):(∀z∈zs,∀g,z.2.ownBlock=J g->∀u∈RI,u.ownBlock≠J g)/\∀g,l.ownBlock=J g->∀u∈RA,u.ownBlock≠J g:=by
 refine⟨λz j g d u c e=>?_,λg d u c e=>?_⟩;have f:=a g (Rg ⟨z,j,d⟩);have i:=h.lt (b:=g) (Rg (Rg (Rg ⟨u,c,e⟩)));omega;have f:=a g (Rf d);have i:=h.lt (b:=g) (Rg (Rf (Rg ⟨u,c,e⟩)));omega
section
variable {k n n' r:Nat} {W wr w1 w4 w5 w6:Wj} {vA vI la lb:Wx} {RA RI:List Wx} {za zb:List (iU×Wx)}
theorem Jp(h:ci wr k vA vI RA RI)(hs1:wr.heap.size<=w1.heap.size)(ha:∀b,InO la za b->b<w1.heap.size)(n:∀b,InO lb zb b->w1.heap.size<=b)(l:ko w4 lb zb)(r:Chg w4 w5 (λb=>b=k\/vA.ownBlock=J b\/vI.ownBlock=J b\/InO la za b))
  (p:∀u,u∈D\/u∈RI'->∀g,u.ownBlock=J g->(∃f,(f∈RA\/f∈RI)/\f.ownBlock=J g)\/InO la za g\/w4.heap.size<=g):ko w5 lb zb/\(∀z∈zb,∀g,z.2.ownBlock=J g->∀u∈RI',u.ownBlock≠J g)/\∀g,lb.ownBlock=J g->∀u∈D,u.ownBlock≠J g:=by
 have i:∀u,u∈D\/u∈RI'->∀g,InO lb zb g->u.ownBlock≠J g:=λu j g d e=>by
  have q:=n g d;have h2:=l.lt d;rcases p u j g e with⟨f,a,o⟩|a|a;have:=h.lt (b:=g) (a.elim (λa=>Rg (Rf (Rg ⟨f,a,o⟩))) λa=>Rg (Rg (Rg ⟨f,a,o⟩)));omega
  grind
  omega
 refine⟨l.Nx λb m=>r.block b (l.lt m) λc=>?_,λz s g d u j=>i u (Rg j) g (Rg ⟨z,s,d⟩),λg d u j=>i u (Rf j) g (Rf d)⟩;have q:=n b m;rcases c with rfl|c|c|c;have:=h.lt (Rf Q);omega;have:=h.lt (b:=b) (Rg (Rf (Rf c)));omega;have:=h.lt (b:=b) (Rg (Rg (Rf c)));omega
 grind
theorem FrI.next(h:FrI k n n' W wr r vA vI RA RI)(m:za.length=n)(o:zb.length=n')(c:ax wr w4)(hga:∀b,InO la za b->wr.heap.size<=b)(hgb:∀b,InO lb zb b->wr.heap.size<=b){e f}{RA'}(z:RA'.length=RA.length+4)(A:RI'.length=RI.length+4*za.length)(p:Chg w4 w5 (λb=>b=k\/vA.ownBlock=J b\/vI.ownBlock=J b\/InO la za b))(y:∀g,e.ownBlock=J g\/f.ownBlock=J g->vA.ownBlock=J g\/vI.ownBlock=J g\/w4.heap.size<=g)(D:Nl k e f lb RA' RI' zb w5 w6):∃i d RA2 RI2,FrI k n n' W w6 (r+1) i d RA2 RI2:=by
 obtain⟨i,d,RA2,RI2,u,v,s,l,v2,-⟩:=D;have hk:=h.bk.lt (Rf Q);have hs:=c.size;have hs5:=p.size;have hsW:=h.O9.size;have hup:∀g,e.ownBlock=J g\/f.ownBlock=J g->k<=g:=λg q=>by
  rcases y g q with a|a|a;exact h.up g (Rf a);exact h.up g (Rg a);omega
 refine⟨i,d,RA2,RI2,u,by rw[v,z,h.la];omega,by rw[s,A,h.li,m,o,Nat.add_mul];omega,⟨l.os.t (p.os.t (c.os.t h.O9.os)),by have:=l.size;omega,λb x B=>?_⟩,λg q=>?_⟩;have hlt:b<k:=by omega
 rw[l.block b (by omega) λj=>?_,p.block b (by omega) λj=>?_,c.block b (by omega),h.O9.block b x B];rcases j with a|a|a|a;omega;have:=h.up b (Rf a);omega;have:=h.up b (Rg a);omega
 grind
 grind
 grind
end
theorem ti{s}(h:w.ownsRow b 37 7 (M (J ⟨g,0,N⟩) (n+2) (n+2)) (n+2) ((s++[mkO,mkO]).flatMap aK))(a:s.length=n)(c:Sized s)(hn:n<=1048576):jD w (M (J ⟨g,0,N⟩) n (n+2)) s:=by
 subst a;refine⟨⟨_,_,Q,λ_=>⟨g,0,Q,λi hi=>?_⟩⟩,c,by omega⟩;have:=m8 h (i:=i) (by simp;omega)
 grind
structure Scr4 (w:Wj)(s t:S OpD)(n n' g g':H)(vs vt:Wx):Prop where
 cs:w.ownsRow 0 37 7 vs n (s.flatMap aK)
 ct:w.ownsRow 0 37 7 vt n' (t.flatMap aK)
 co:w.ownsRow 0 37 7 (M (J ⟨g,0,N⟩) (n+2) (n+2)) (n+2) ((s++[mkO,mkO]).flatMap aK)
 cp:w.ownsRow 0 37 7 (M (J ⟨g',0,N⟩) (n'+2) (n'+2)) (n'+2) ((t++[mkO,mkO]).flatMap aK)
theorem Scr4.Nx{w'}{s t}{n'}{vt}(h:Scr4 w s t n n' g c x vt)(hk:∀b,b<w.heap.size->w'.heap[b]?=w.heap[b]?):Scr4 w' s t n n' g c x vt:=
 ⟨bG h.cs λb a=>hk b (h.cs.lt b a).2,bG h.ct λb a=>hk b (h.ct.lt b a).2,bG h.co λb a=>hk b (h.co.lt b a).2,bG h.cp λb a=>hk b (h.cp.lt b a).2⟩
structure MB (s:S OpD)(n:H):Prop where
 len:s.length=n
 ok:∀o∈s,(o.key.size<=maxLen/\o.body.size<=maxLen)/\o.fe.size<=140737488351232
 Oi:Di s
theorem Dl{G:Wj->Prop}{N}(aa:MH G N)(hN:N<2199023255300)(a a':RF Wu)n n' af D ops d w(h:jD w (M a n af) ops)(h':jD w (M a' n' D) d)(hn:n<=1048576)(bb:n'<=1048576)(a5:n<=N)(ab:n'<=N)(hd:∀o∈ops,o.fe.size<=140737488351232)(av:∀o∈d,o.fe.size<=140737488351232)(hG:∀w',ax w w'->G w'):
  Calls Vp 3 #[M a n af,M a' n' D] w λe w'=>(e=Rc (C Y)/\ax w w')\/Stop AY e w':=by
 have hl:n=ops.length:=by have⟨_,_,he,_⟩:=h.form;cases he;rfl
 have a4:n'=d.length:=by have⟨_,_,he,_⟩:=h'.form;cases he;rfl
 have t1:MB (dS 12 ops) n:=⟨by rw[mY];exact hl.s,JU ops h.sized hd,xR ops⟩;have t2:MB (dS 12 d) n':=⟨by rw[mY];exact a4.s,JU d h'.sized av,xR d⟩;have HT:=bJ t1 t2;have HA:Hid (MH G N/\N<2199023255300/\n<=N/\n'<=N/\∀w',ax w w'->G w'):=⟨aa,hN,a5,ab,hG⟩;have HS:=bJ h h';clear aa hN a5 ab hG h h' hd av hl a4 t1 t2;go_enter (Yq.nq func3),ntmps3;go_wp2_with fail
 refine(Bh 12 a n af ops w HS.o.1 (by omega)).m ?_;rintro e w1 ⟨v1,rfl,o1,b1⟩;obtain⟨va,vc,rfl,-⟩:=ao o1;have H1:=bJ o1 (ax.below b1);clear o1 b1;go_wp2_with fail
 refine(Bh 12 a' n' D d w1 (HS.o.2.left H1.o.2) (by omega)).m ?_;rintro e w2 ⟨v2,rfl,o2,b2⟩;obtain⟨wa,wc,rfl,-⟩:=ao o2;have q:=ax.below b2;have H2:=eM (bG H1.o.1 λb c=>q.block b (H1.o.1.lt b c).2) o2 (H1.o.2.t q);clear o2 b2 q H1 HS;generalize dS 12 ops=s at *;generalize dS 12 d=t at *;go_wp2_with fail
 refine(th _ n _ s w2 H2.o.1 (by omega)).m ?_;rintro e w3 ⟨g,rfl,o3,b3⟩;have H3:=bJ o3 (ax.below b3);clear o3 b3;go_wp2_with fail
 refine(th _ n' _ t w3 (bG H2.o.2.1 λb c=>H3.o.2.block b (H2.o.2.1.lt b c).2) (by omega)).m ?_;rintro e w4 ⟨g',rfl,o4,b4⟩;have ad:=ax.below b4;have HC:Hid (Scr4 w4 s t n n' g g' (M va n vc) (M wa n' wc)/\ax w w4):=by
  have v:=H3.o.2.t ad;exact⟨⟨ba (bG H2.o.1 λb c=>v.block b (H2.o.1.lt b c).2) Q8,ba (bG H2.o.2.1 λb c=>v.block b (H2.o.2.1.lt b c).2) Q8,ba (bG H3.o.1 λb c=>ad.block b (H3.o.1.lt b c).2) Q8,ba o4 Q8⟩,H2.o.2.2.t v⟩
 clear o4 b4 ad H2 H3;go_wp2_with fail
 obtain⟨k,hk⟩:∃k,k=w4.heap.size:=⟨_,Q⟩;generalize hW:w4.alloc (E #[M none 0 0,M none 0 0] 29)=W;have V:ax w4 W:=by rw[<-hW];exact ax.refl.alloc _
 have HW:Hid (FrI k n n' W W 0 (M none 0 0) (M none 0 0) [] []):=
  ⟨⟨by rw[<-hW,hk];exact Ru w4 _,⟨Rp _ _ _ _,λi hi=>RB hi (RY _)⟩,⟨Rp _ _ _ _,λi hi=>RB hi (RY _)⟩⟩,by simp,by simp,⟨Q,Q0,λ_ _ _=>Q⟩,λg hg=>by rcases hg with hg|hg<;>cases hg⟩
 have HQ:Hid (∀wr,(Chg W wr λb=>k<=b)->Scr4 wr s t n n' g g' (M va n vc) (M wa n' wc)/\ax w wr):=λwr hc=>by
  have hs:=hc.size;have hs4:=V.size;have c:=λb c=>(hc.block b (by omega) (by omega)).t (V.block b c)
  exact⟨HC.o.1.Nx c,HC.o.2.t ⟨hc.os.t V.os,by omega,c⟩⟩
 clear HC V hW;rw[<-hk];clear hk
 go_loopw [10] (λs10 wr=>∃ (r:H) (vA vI:Wx) (RA RI:S Wx),r<=2/\s10=I K r/\FrI k n n' W wr r vA vI RA RI) (λs10 _=>2-(intOf s10).toNat)
 case atStart=>exact⟨0,_,_,_,_,by omega,Q,HW.o⟩
 case round=>
  obtain⟨r,vA,vI,RA,RI,hr,rfl,hF⟩:=hrel;have⟨l,A⟩:=HQ.o wr hF.O9;by_cases hlt:r<2
  .have HR:=Gw HA.o.1 HA.o.2.1 (J ⟨g,0,none⟩) n (n+2) s wr (ti l.co HT.o.1.len (λo f=>(HT.o.1.ok o f).1) hn) HA.o.2.2.1 (λw' hl=>HA.o.2.2.2.2 w' (A.t hl));have HF:=eM hF l A;clear hF l A;go_wp2_with fail
   refine HR.m ?_;clear HR;rintro e w1 (⟨ga,za,rfl,oa,ea,la,fa⟩|p)
   rotate_left
   obtain⟨x,y,r,rfl,p⟩:=p;exact⟨Q,Rg ⟨x,y,r,Q,p⟩⟩;have H1:=ig oa ea la fa;have S1:=HF.o.2.1.Nx λb c=>la.block b c
   have HR:=Gw HA.o.1 HA.o.2.1 (J ⟨g',0,none⟩) n' (n'+2) t w1 (ti S1.cp HT.o.2.len (λo f=>(HT.o.2.ok o f).1) bb) HA.o.2.2.2.1 (λw' hl=>HA.o.2.2.2.2 w' ((HF.o.2.2.t la).t hl));clear oa ea la fa S1;go_wp2_with fail
   refine HR.m ?_;clear HR;rintro e w2 (⟨gb,zb,rfl,ob,eb,lb,fb⟩|p)
   rotate_left
   obtain⟨x,y,r,rfl,p⟩:=p;exact⟨Q,Rg ⟨x,y,r,Q,p⟩⟩;have H2:=ig ob eb lb fb;have q:=H1.o.2.2.1.t lb;have S2:=HF.o.2.1.Nx λb c=>q.block b c
   have ap:=H1.o.1.Nx λb c=>lb.block b (H1.o.1.lt c)
   have HX:=Bl va n vc ga s za w2 (qG S2.cs HT.o.1.len.s (λo f=>(HT.o.1.ok o f).1) (by rw[HT.o.1.len];omega)) (by omega) ap H1.o.2.1 (λo f=>⟨(HT.o.1.ok o f).1.1,(HT.o.1.ok o f).2⟩) HT.o.1.Oi;clear ob eb lb fb q S2 ap;go_wp2_with fail
   refine HX.m ?_;clear HX;rintro e w3 ⟨rfl,b3⟩;have aj:=H2.o.2.2.1.t (ax.below b3);have F:=H1.o.2.2.1.t aj;have S3:=HF.o.2.1.Nx λb c=>F.block b c
   have ai:=H2.o.1.Nx λb c=>(ax.below b3).block b (H2.o.1.lt c)
   have HX:=Bl wa n' wc gb t zb w3 (qG S3.ct HT.o.2.len.s (λo f=>(HT.o.2.ok o f).1) (by rw[HT.o.2.len];omega)) (by omega) ai H2.o.2.1 (λo f=>⟨(HT.o.2.ok o f).1.1,(HT.o.2.ok o f).2⟩) HT.o.2.Oi;have H3:=eM aj ai F;clear b3 aj F S3 ai;go_wp2_with fail
   refine HX.m ?_;clear HX;rintro e w4 ⟨rfl,b4⟩;have j:=ax.below b4;have H4:Hid (ax w1 w4/\ax wr w4/\ko w4 (M (J ⟨ga,0,none⟩) n n) za/\ko w4 (M (J ⟨gb,0,none⟩) n' n') zb):=
    ⟨H3.o.1.t j,H3.o.2.2.t j,H1.o.1.Nx λb c=>(H3.o.1.t j).block b (H1.o.1.lt c),H3.o.2.1.Nx λb c=>j.block b (H3.o.2.1.lt c)⟩
   clear b4 j H3;have P:za.length=n:=by have:=RE pt H1.o.2.1;rwa [lM,fE,HT.o.1.len]at this
   have R:zb.length=n':=by have:=RE pt H2.o.2.1;rwa [lM,fE,HT.o.2.len]at this
   have L:=HF.o.1.la;have a0:=HF.o.1.li;have B:RI.length%4=0/\RI.length<=8388608:=by
    rw[a0];rcases(show r=0\/r=1 by omega)with rfl|rfl<;>omega
   have ac:∀z∈za,z.1.items.length<=1000000000:=λz hz=>lT (Gi (Qok:=AY) s (λo f=>⟨xN o,(HT.o.1.ok o f).1.1⟩) z.1 (by rw[<-H1.o.2.1];exact xc hz)) (by omega)
   have X:∀z∈zb,z.1.items.length<=1000000000:=λz hz=>lT (Gi (Qok:=AY) t (λo f=>⟨xN o,(HT.o.2.ok o f).1.1⟩) z.1 (by rw[<-H2.o.2.1];exact xc hz)) (by omega)
   have al:=Jo HF.o.1.bk H1.o.2.2.2;have HX:=qT k vA vI _ RA RI za w4 (HF.o.1.bk.left H4.o.2.1) H4.o.2.2.1 al.1 al.2 (by omega) B.1 (by omega) ac (by omega) (by omega);have HN:=gB P R L B X;clear P R L a0 B ac X al;go_wp2_with fail
   refine HX.m ?_;clear HX;rintro e w5 ⟨rfl,a9,a8,RA',RI',a3,l1,l2,c5,v5,e5⟩;have T:=Jp HF.o.1.bk H1.o.2.2.1.size (λb c=>H1.o.1.lt c) H2.o.2.2.2 H4.o.2.2.2 c5 e5;have B:=HN.o.2.2.2.1;have L:=HN.o.2.2.1;have P:=HN.o.1;have R:=HN.o.2.1;have HX:=qT k a9 a8 _ RA' RI' zb w5 a3 T.1 T.2.1 T.2.2 (by omega) (by omega) (by omega) HN.o.2.2.2.2 (by omega) (by omega);have H5:=ig l1 l2 c5 v5;clear a3 l1 l2 c5 v5 e5 T B L P R;go_wp2_with fail
   refine HX.m ?_;clear HX;rintro e w6 ⟨rfl,a1⟩;have⟨a7,a6,RA2,RI2,u⟩:=HF.o.1.next HN.o.1 HN.o.2.1 H4.o.2.1 H1.o.2.2.2 (λb c=>lT H1.o.2.2.1.size (H2.o.2.2.2 b c)) H5.o.1 H5.o.2.1 H5.o.2.2.1 H5.o.2.2.2 a1
   have bd:=u.la;have a2:=u.li;have ar:RI2.length<=1000000000:=by
    rw[a2];rcases(show r=0\/r=1 by omega)with rfl|rfl<;>omega
   have HX:=Dj k a7 a6 RA2 RI2 w6 u.bk (by omega) ar;have H6:=aq u;clear a1 u bd a2 ar;go_wp2_with fail
   refine HX.m ?_;clear HX;rintro e w7 ⟨rfl,rfl⟩;go_wp2_with fail
   exact⟨⟨r+1,_,_,_,_,by omega,by go_num,H6.o⟩,by simp[intOf];omega⟩
  obtain rfl:r=2:=by omega
  have HX:=xS g n vc 0 0 va s wr l.co l.cs (by omega);have HF:=bJ l A;clear hF l A;go_wp2_with fail
  refine HX.m ?_;clear HX;rintro e w1 ⟨rfl,b1⟩;have S1:=HF.o.1.Nx λb c=>(ax.below b1).block b c
  have HX:=xS g' n' wc 0 0 wa t w1 S1.cp S1.ct (by omega);have H1:=aq (HF.o.2.t (ax.below b1));clear b1 S1;go_wp2_with fail
  refine HX.m ?_;clear HX;rintro e w2 ⟨rfl,b2⟩;have H2:=aq (H1.o.t (ax.below b2));clear b2;go_wp2_with fail
  go_ret;exact Rf ⟨Q,H2.o⟩
end
section
open Go.RowKit
open Go.Conc Go.ConcX Go.ConcX.Gen
theorem Dm(p r:RF Wu)l P s R a d W(f:W.ShapedOpen ey)(k:um W)(F:jD W (M p l P) a)(L:jD W (M r s R) d)(u:∀b,slB p b->∃c e z,W.heap[b]?=J (E c e z))(y:∀b,slB r b->∃c e z,W.heap[b]?=J (E c e z))(D:∀o∈a,o.fe.size<=140737488351232)(t:∀o∈d,o.fe.size<=140737488351232)(j:l+s<=1048576):
  Fin ey (λv W'=>v=C Y/\vQ W W') #[G (Frame.enter ey 3 #[M p l P,M r s R] .normal) []] W none #[]:=by
 refine @Ks B4 B5 Gs Ss Rs As (LH AY) env L5 KG Ng ⟨Q,Q,Q,Q⟩ (EF AY (λq _=>JS q)) KW (K0 AY) 3 eW (cD eW) func3 (Yq.nq func3) (by kernel_rfl) (by kernel_rfl) Q Q _ W _ (In f (X:=λb=>slB p b\/slB r b) (λb j=>j.elim (u b) (y b))) (λρ h=>?_) (λV i x A=>?_);exact RVl.arr (.cons (Mz (λb j=>h b (Rg (Rf j))) _ _) (.cons (Mz (λb j=>h b (Rg (Rg j))) _ _) .nil));refine(Dl (G:=GE) (N:=l+s+1) (Gm _ (by omega)) (by omega) _ _ _ _ _ _ a d (V.on x A) (F.clean i x A) (L.clean i x A) (by omega) (by omega) (by omega) (by omega) D t (λw' n=>(GE.NS (W:=W) ⟨K5 f,k⟩ (i.NS f)).on n.block)).m ?_;rintro e w' (⟨rfl,n⟩|B);exact Rf ⟨Q,n.os,n.block⟩;exact Rg B
end
section
open Go.RowKit
open Go.Conc Go.ConcX Go.ConcX.Gen
open Go.Proofs.YthnlbojplkflaaaGreatDoor.Rows
theorem Jq{h:Type}(d:DataW h):1<=uptoBulk d:=by
 cases d with
 |lit l=>cases l<;>simp[uptoBulk]
 |_=>simp[uptoBulk]
theorem uJ{h:Type}:∀l:S (DataW h),l.length<=uptoBulkAll l
 | []=>Q8
 |d::r=>by
  have h1:=uJ r;have h2:=Jq d;rw[uptoBulkAll,lC];omega
theorem Bm{b:Type}{k:Ww×Wx->b}{a:RF Wu}{f:H}{d:DataW b}{p:S MemPlace}(h:DataW.Trod k ey W 0 (λ_=>Y) Y 22 (.slice a f j) d p):f<=uptoBulk d:=by
 obtain⟨i,n⟩:=h;have l:DataW.trod k ey W 0 (λ_=>Y) Y i 22 [.slice a f j]=J (d,p):=by simpa[Value.cells]using n
 have:=AI (B:=88*uptoBulk d) l (λc e o=>by
  have m:d=.slice c e:=o;rw[m,uptoBulk];have h1:=uJ c;have h2:=uJ e;omega)
 omega
theorem Gx{a:Type}{k:Ww×Wx->a}{os:Os}(p:os.Started){r:FuncId}{fn:Func}{s:ChangeSpec}{q:S (String×DataW Unit)}(ai:Tryz.prog.funcs[r]?=J fn)
  (z:Wj) (c:RG Wx) (af:z.os=os) (P:(z.forCall (λ_ _=>0) ⟨#[],c,[]⟩).Shaped ey) (y:Input.okWideB ey (z.forCall (λ_ _=>0) ⟨#[],c,[]⟩) r ⟨#[],c,[]⟩=Y)
  (u:(match DataW.whole k ey (z.forCall (λ_ _=>0) ⟨#[],c,[]⟩).memory fn.params.toList s.vars Z c.toList 8 with|some x=>uptoSmall a (x.1++x.2.1)|Option.none=>Z)=Y)
  (ab:s.sizedB k ey fn Z (z.forCall (λ_ _=>0) ⟨#[],c,[]⟩).memory c 8=Y) (aa:Rw ey q (z.forCall (λ_ _=>0) ⟨#[],c,[]⟩).memory)
  (l:∀ (W:Wj) (D:H) (d:RG Wx) (R F:S (DataW a)) (f:S MemPlace),W.ShapedOpen ey->(∀ (j:H) t v,fn.params[j]?=J t->d[j]?=J v->Value.okWide ey W .any D t v)->DataW.Whole k ey fn.params.toList s.vars Z W d.toList R F f->(DataW.weightsEach ey (fn.params.toList++s.plain.varTypes ey) (R++F)).all (·<=reachBytes)=Y->uptoSmall a (R++F)=Y->Rw ey q W->Fin ey (λv W'=>s.post k ey fn Z Y Z Z W d v W') #[G (Frame.enter ey r d .normal) []] W N #[]):
  ReturnsInLeavingWide {} eV os r .any (λw d=>((OpenSpec.upto s).pre k ey fn [] Z w d/\Rw ey q w)/\sizedMet k ey fn (OpenSpec.upto s) Z w d) (s.post k ey fn Z Y Z Z):=by
 have n:(OpenSpec.upto s).cond=J uptoSmall:=rfl;refine returnsInLeavingWide_of_good (C:=eV) Nq p ?_ ?_
 .cases X:DataW.whole k ey (z.forCall (λ_ _=>0) ⟨#[],c,[]⟩).memory fn.params.toList s.vars Z c.toList 8 with
  |none=>rw[X]at u;cases u
  |some x=>
   rw[X]at u;refine⟨z,λ_ _=>0,⟨#[],c,[]⟩,af,P,(Input.okWide_of_okWideB (base:=0) y).1,(Input.okWide_of_okWideB y).2,⟨⟨(OpenSpec.pre_some n [] Z _ _).2 ⟨x.1,x.2.1,x.2.2,DataW.Whole_of_whole X,Q,u⟩,aa⟩,(show sizedMet k ey fn (OpenSpec.ofChange s) Z _ _ from sizedMet_of_sizedB ab)⟩,?_⟩;simp only[Assume.holds];exact⟨by simp,by simp,λh=>by simp at h,by simp,by simp⟩
 .intro w A i _ ad _ ac V _;obtain⟨_,_,_,aj,T,_,_,_,_,L⟩:=ac;have e:aj=fn:=oJ (T.s.t ai);subst e;obtain⟨⟨hp,X⟩,hz⟩:=V;obtain⟨R,F,f,hw,-,hk⟩:=(OpenSpec.pre_some n [] Z _ _).1 hp;have⟨b,B,o,w',t',e1,e2,e3,e4⟩:=l (w.forCall A i) w.heap.size i.args R F f ad L (DataW.Whole.of_heap (w':=w.forCall A i) (by rfl) hw) (hz.weights hw) hk (X.of_heap (by rfl));exact⟨b,B,o,w',t',e1,e2,e3,e4.mono λv hp=>ChangeSpec.post_blind hp⟩
end
