/- A part. -/
import Derived.Test.YthnlbojplkflaaaGreatDoorQP03
import Derived.Lib.SliceRun
import Derived.Laws.AppendOwnNone
import Derived.Deep.RegionHeld3
import Derived.Lib.AppendZerosOnto
import Derived.Lib.Overlaps
import Derived.Laws.Externs
import Derived.Laws.NewBlocks
set_option maxHeartbeats 4000000
set_option maxRecDepth 100000
open Go.Value renaming ownBlock->dT,cells->ey,agg->eV,oneCell'->eW,slice->gI
open _root_ renaming Option->gL,UInt8->kr,Int->lj,Array->lk,ByteArray->nF,absurd->n8
open List renaming eq_nil_of_length_eq_zero->pt,getElem?_take->sq,mem_of_mem_drop->sT,take_left'->tb,getElem?_drop->tn,flatMap_cons->uc,length_eq_zero_iff->vf,mem_flatMap->vx,not_mem_nil->wz
open Go.Addr renaming add_lit->xb
open Or renaming inr->xc,inl->xt
open Go.Builtin renaming copy_->xv,append_->yz,zeroCells->Rj,clear_->Rk,firstCells->Rl,append->Rm,lenOf->Rn
open Go.World.grownBy renaming refl->Ro
open Go.World renaming cell?->Rp,ownsRow_nil->Rq,grownBy_alloc->Rr,ownsRow_made->Rt,frozen?->Ru,shape?->Rv
open Go renaming setRow_heap->Rw,maxLen->Rx,info_parts->Ry,setRow_other->Rz,run_append_room->RB,wpList_append_own->RE,run_storeCells_at->RF,run_underlying->RG,run_append_nil->RJ,growslice_fits->RN,size_zeroCells->RQ,heap_alloc_new->RU
open Go.Act renaming eval->RY,put->RZ
open Go.Region renaming wanted->R3
open Nat renaming min_eq_left->R4,min->R5,mul_le_mul_right->R6,add_mul->R7,one_mul->R8
open Go renaming World->Wj,Value->Wx,TypeId->Ww,Addr->Wu
namespace Go.Proofs.Qw
open _root_ renaming rfl->Q
open Go.Proofs.Yq renaming prog->Vp
open _root_ renaming Nat->H,List->S
open Option renaming none->N,some->J
open Bool renaming true->Y,false->Z
open Value renaming int->I,string->U,slice->M,pointer->O,bool->C,agg->Rd,tuple->Re
open IntKind renaming i64->K
open Obj renaming cells->E
open Ending renaming returned->Rc
open Operand renaming tmp->Rh
variable {A:H->Prop}{G i w:Wj}{j v:Wx}{d g n r:H}{c:kr}{f:S kr->S Ver}{o:Oper}{a b ks p z:S (kr×gL Wu)}{e:Exit->Act->Wj->Prop}{q:gL Wu}
open Tryz
section
open Go.RowKit
theorem Yq.Oe:(Yq.prog.info? 184).map (λi=>(i.zero,i.size,i.bytes))=J (J (Rd #[I .u8 0,O N]),2,16):=by kernel_rfl
theorem Yq.OK:(Yq.prog.info? 72).map (λi=>(i.zero,i.size,i.bytes))=J (J (Rd #[I K 0,U ⟨#[]⟩,C Z]),3,32):=by kernel_rfl
theorem dW.src{c}(h:dW A w v n c)(hl:n=0->c=[]):(v=M N 0 0/\n=0\/∃d b,v=M (J d) n b/\∀j u,c[j]?=J u->w.cell? (d.add j)=J u)\/(∃b,v=M N n b/\n≠0/\c=[]):=by
 obtain⟨a,b,rfl,h0,l⟩:=h;cases a with
 |none=>
  grind
 |some d=>
  refine xt (xc ⟨d,b,Q,λj u f=>?_⟩);have⟨g,k,hA,hg,i⟩:=l (by intro e;subst e;simp at f);cases k;rw[xb,zA,i j ((sL f).1)];exact f
theorem Cb(A:H->Prop)v n f w(h:dW A w v n f)(t:f.length=n*2)(hn:n<=1000)(F:∀u∈f,u.oneCell'=Y):
  Calls Vp 111 #[v] w λe p=>∃i,e=Rc i/\p.ownsRow w.heap.size 184 2 i n f/\Below w.heap.size w p:=by
 have⟨r,y,m,o,l⟩:=Ry Yq.Oe;have q:=λw a n c s x=>Lib.run_eql_slice_nil w _ _ a n c s x (Yq.u underlying150)
 rcases h.src (λh=>by subst h;exact pt (by omega))with(⟨rfl,rfl⟩|⟨ad,cap,rfl,hc⟩)|⟨cap,rfl,hn0,rfl⟩;have z:=pt (by omega);subst z;go_enter (Yq.nq func111),ntmps111;go_wp2;go_ret;exact⟨_,rfl,Rq _ _ _ _,Q9⟩;go_enter (Yq.nq func111),ntmps111;go_wp2_with (at_builtin;refine RE _ rfl _ _ 150 rfl w.heap.size 184 r _ 2 16 (Yq.u underlying150) y m o l rfl (by decide) _ _ _ rfl (Rt w #[] 0 Q0 Q8 (by simp)) ad n cap f rfl ?qc1 ?qc2 ?qc3 ?qc4 ?qc5 ?qc6 ?_)
 case qc1=>exact t
 case qc2=>
  exactλj u D=>ag ((Q9).alloc Q0 _) (hc j u D)
 case qc3=>exact F
 simp[Rx];omega;omega;case qc6=>simp
 intro i w1 d b hnil;go_wp2;go_ret;exact⟨i,rfl,by simpa using d,((bR _ w).alloc Q0 _).grown b (by simp) (by intro k B;simp[dT]at B;omega)⟩
 grind
theorem Cc(A:H->Prop)v n f w(h:dW A w v n f)(t:f.length=n*3)(hn:n<=2199023255552)(F:∀u∈f,u.oneCell'=Y):
  Calls Vp 75 #[v] w λe p=>∃i,e=Rc i/\p.ownsRow w.heap.size 72 3 i n f/\Below w.heap.size w p:=by
 have⟨r,y,m,o,l⟩:=Ry Yq.OK;have q:=λw a n c s x=>Lib.run_eql_slice_nil w _ _ a n c s x (Yq.u underlying105)
 rcases h.src (λh=>by subst h;exact pt (by omega))with(⟨rfl,rfl⟩|⟨ad,cap,rfl,hc⟩)|⟨cap,rfl,hn0,rfl⟩;have z:=pt (by omega);subst z;go_enter (Yq.nq func75),ntmps75;go_wp2;go_ret;exact⟨_,rfl,Rq _ _ _ _,Q9⟩;go_enter (Yq.nq func75),ntmps75;go_wp2_with (at_builtin;refine RE _ rfl _ _ 105 rfl w.heap.size 72 r _ 3 32 (Yq.u underlying105) y m o l rfl (by decide) _ _ _ rfl (Rt w #[] 0 Q0 Q8 (by simp)) ad n cap f rfl ?qc1 ?qc2 ?qc3 ?qc4 ?qc5 ?qc6 ?_)
 case qc1=>exact t
 case qc2=>
  exactλj u D=>ag ((Q9).alloc Q0 _) (hc j u D)
 case qc3=>exact F
 simp[Rx];omega;omega;case qc6=>simp
 intro i w1 d b hnil;go_wp2;go_ret;exact⟨i,rfl,by simpa using d,((bR _ w).alloc Q0 _).grown b (by simp) (by intro k B;simp[dT]at B;omega)⟩
 grind
theorem eJ h:∀u∈aA h,u.oneCell'=true:=by
 intro u a;simp only[aA,vx]at a;obtain⟨v,_,a⟩:=a;simp at a;rcases a with rfl|rfl|rfl<;>rfl
theorem jT h:∀u∈aI h,u.oneCell'=true:=by
 intro u a;simp only[aI,vx]at a;obtain⟨v,_,a⟩:=a;simp at a;rcases a with rfl|rfl<;>rfl
theorem Cd(A:H->Prop)v a w(h:jR A w v a)(hn:a.length<=256):
  Calls Vp 111 #[v] w λe b=>∃c,e=Rc c/\b.ownsRow w.heap.size 184 2 c a.length (aI a)/\Below w.heap.size w b:=
 Cb A v _ _ w h (fH a) (by omega) (jT a)
theorem r8(A:H->Prop)v h w(c:bX A w v h)(d:h.length<=2199023255552):
  Calls Vp 75 #[v] w λe a=>∃b,e=Rc b/\a.ownsRow w.heap.size 72 3 b h.length (aA h)/\Below w.heap.size w a:=
 Cc A v _ _ w c (fG h) d (eJ h)
section
variable {P:Program}
theorem fY(w:Wj)(m x p e:Ww)(i:TypeInfo)(g o b h:H)(a:Wu)(d k:H)(c:lk Wx)(t:Ww)(cs:S Wx)
  (n:P.underlying m=J (.slice e)) (r:P.info? e=J i)
  (q:w.heap[g]?=J (.cells c t (0,0))) (s:cs.length=R5 d b*i.size)
  (l:∀j v,cs[j]?=J v->w.cell? (a.add j)=J v) (f:o+cs.length<=c.size) (u:∀v∈cs,v.oneCell'=Y):
  (xv #[m,x] p #[.slice (J ⟨g,o,N⟩) b h,.slice (J a) d k]).run P w =
   .ok (goInt (R5 d b)) (w.setRow g (c.toList.take o++cs++c.toList.drop (o+cs.length)).toArray):=by
 simp[xv,RG n,Rn,Rl,sizeOf,typeInfo,r,<-s,run_loadCells_list (P:=P) w a cs l,(RF P g o t cs 0 c w q (by simpa using f) u)]
theorem mE(w:Wj)(t e l:Ww)(z:Wx)(k:P.underlying t=J (.slice e))(j:∀w,(zeroValue e).run P w=.ok z w)(h:∀v∈z.cells.toList,v.oneCell'=Y)
  (g o c:H) (a:lk Wx) (T:Ww) (m:w.heap[g]?=J (.cells a T (0,0))) (b:o+z.cells.size<=a.size):
  (Rk #[t] l #[.slice (J ⟨g,o,N⟩) 1 c]).run P w=.ok (.tuple #[]) (w.setRow g (a.toList.take o++z.cells.toList++a.toList.drop (o+z.cells.size)).toArray):=by
 have d:(Rj z.cells 1)=z.cells:=by
  apply Array.ext;simp[Rj];intro i h f;simp[Rj,Nat.mod_eq_of_lt f,f]
 simp[Rk,RG k,j,d,(RF P g o T z.cells.toList 0 a w m (by simpa using b) h)]
theorem mF{f:lk Oper}{a}{b:Act->Wj->Prop}{c:Prop}
  (r:o.guard=N) (d x:Operand) (l k:Ww) (h:o.op=Op.call {callee:=Callee.builtin Builtin.copy,args:=#[d,x],argTypes:=#[l,k]})
  (v u:Wx) (m:a.eval d=v) (n:a.eval x=u)   (p:(xv #[l,k] o.type #[v,u]).run P w=.ok j i) (q:b (a.put o.dst j) i):
  if R3 o (yielded f a.tmps)=Y then Oper.wp P o a w b e else c:=by
 rw[if_pos (by simp[R3,r])];unfold Oper.wp;simp[execOp,h,resolve,invoke,builtin,m,n,p,Result.andThen];exact q
theorem fc{f:lk Oper}{a}{b:Act->Wj->Prop}{c:Prop}
  (r:o.guard=N) (d x:Operand) (l k:Ww) (h:o.op=Op.call {callee:=Callee.builtin Rm,args:=#[d,x],argTypes:=#[l,k]})
  (v u:Wx) (m:a.eval d=v) (n:a.eval x=u)   (p:(yz #[l,k] o.type #[v,u]).run P w=.ok j i) (q:b (a.put o.dst j) i):
  if R3 o (yielded f a.tmps)=Y then Oper.wp P o a w b e else c:=by
 rw[if_pos (by simp[R3,r])];unfold Oper.wp;simp[execOp,h,resolve,invoke,builtin,m,n,p,Result.andThen];exact q
end
theorem fZ{s}{a}{c:lk Wx}{f}(k:d<=g)(l:w.heap[g]?=J (E c s (0,0)))(m:n<=a)(j:a<=Rx)
  (h:c.size=a*r) (i:c.toList.take (n*r)=f):w.ownsRow d s r (M (J ⟨g,0,N⟩) n a) n f:=by
 refine⟨?_,xc ⟨g,a,c,Q,k,l,m,j,h,i⟩⟩;rw[<-i,tL,lY,h]
 simp_all
theorem dL(w:Wj)(g:H)(cs:lk Wx):w.grownBy (w.setRow g cs) (J g):=
 ⟨Q,Q,Q,by simp,λk _ a=>Rz w g k _ (λe=>a (by rw[e]))⟩
theorem iM{r:gL H}(h:w.grownBy i r):w.grownBy i.drew r:=⟨h.os,h.tape,h.output,h.size,h.block⟩
theorem aJ{b c}{r:gL H}(h:w.grownBy b r)(k:b.grownBy c r):w.grownBy c r:=
 ⟨k.os.t h.os,k.tape.t h.tape,k.output.t h.output,lT h.size k.size,λi d e=>(k.block i (lL d h.size) e).t (h.block i d e)⟩
theorem Yq.PS w:(zeroValue 184).run Vp w=.ok (Rd #[I .u8 0,O N]) w:=by simp_all
theorem Yq.PQ w:(zeroValue 72).run Vp w=.ok (Rd #[I K 0,U ⟨#[]⟩,C Z]) w:=by simp_all
theorem Aw{m:Type}(b c C1 a:S m)(s k i d:H)(hcl:b.length=d*s)(e:k+1<=d)(h:i<=k)(hx:b.take ((k+1)*s)=c)
  (hC1:C1=b.take (i*s)++c.drop ((i+1)*s)++b.drop (i*s+(c.drop ((i+1)*s)).length)):
  (C1.take (k*s)++a++C1.drop (k*s+s)).take (k*s)=c.take (i*s)++c.drop ((i+1)*s):=by
 have m3:(k+1)*s<=d*s:=R6 _ e;have m4:i*s<=k*s:=R6 _ h;have e1:b.take (i*s)=c.take (i*s):=by grind
 have hl:(b.take (i*s)++c.drop ((i+1)*s)).length=k*s:=by
  grind
 grind
theorem Hv n g k d i z w(V:w.ownsRow n 184 2 (M (J ⟨g,0,N⟩) (k+1) d) (k+1) z)(hi:i<=k)(hn:k<=2199023255552)(h1:∀u∈z,u.oneCell'=Y):
  Calls Vp 96 #[M (J ⟨g,0,N⟩) (k+1) d,I K i,I K ((i:lj)+1)] w λe w'=>e=Rc (M (J ⟨g,0,N⟩) k d) /\
   w'.ownsRow n 184 2 (M (J ⟨g,0,N⟩) k d) k (z.take (i*2)++z.drop ((i+1)*2))/\w.grownBy w' (J g):=by
 have⟨i0,aj,hz0,F,hz2⟩:=Ry Yq.Oe;obtain⟨y,hr⟩:=V;rcases hr with⟨h0,_⟩|⟨g',cap',m,hv,af,hg,L,B,R,l⟩;cases h0;cases hv;obtain⟨a,hZ⟩:∃a:S Wx,a=(eV #[I .u8 0,O N]).cells.toList:=⟨_,Q⟩;obtain⟨f,j⟩:∃f,f=z.drop ((i+1)*2):=⟨_,Q⟩;have G:f.length=(k-i)*2:=by rw[j,lD,y];omega
 obtain⟨A,hA,ad⟩:∃A:Wu,(if d=i+1 then J (⟨g,0,N⟩:Wu)else J ⟨g,(i+1)*2,N⟩)=J A/\Hid (∀t u,f[t]?=J u->w.drew.cell? (A.add t)=J u):=by
  by_cases h:d=i+1
  refine⟨⟨g,0,N⟩,by simp[h],λt u hu=>?_⟩
  grind
  refine⟨⟨g,(i+1)*2,N⟩,by simp[h],λt u hu=>?_⟩;rw[xb,j,tn,<-l,sq]at *;have D:=hu;split at D
  show w.cell? _=_;rw[Rp];simpa[hg]using D;cases D
 have ac:m.toList.length=d*2:=by rw[lY,R]
 obtain⟨C1,v⟩:∃C1,C1=m.toList.take (i*2)++f++m.toList.drop (i*2+f.length):=⟨_,Q⟩;have x:C1.length=d*2:=by rw[v];simp;omega
 obtain⟨W1,r⟩:∃W1,W1=w.drew.setRow g C1.toArray:=⟨_,Q⟩;have p:W1.heap[g]?=J (E C1.toArray 184 (0,0)):=by rw[r];exact Rw w.drew g m _ _ _ hg
 have X:∀T c,(yz #[150,150] T #[M (J ⟨g,0,N⟩) i d,M (J A) (k-i) c]).run Vp w.drew=.ok (M (J ⟨g,0,N⟩) k d) W1:=λT c=>by
  have:=RB (P:=Vp) w.drew 150 T 184 i0 (Yq.u underlying150) aj g i d m hg A (k-i) c f (by rw[F];exact G) ad.o (λu hu=>h1 u (by rw[j]at hu;exact sT hu)) (by omega) (by rw[F,G,R];omega);rw[this,F,r,v,show i+(k-i)=k by omega]
 obtain⟨C2,s⟩:∃C2,C2=C1.take (k*2)++a++C1.drop (k*2+2):=⟨_,Q⟩;obtain⟨W2,q⟩:∃W2,W2=W1.setRow g C2.toArray:=⟨_,Q⟩;have hcr:∀T c,(Rk #[150] T #[M (J ⟨g,k*2,N⟩) 1 c]).run Vp W1=.ok (Re #[]) W2:=λT c=>by
  rw[q,s,hZ];exact mE W1 150 184 T (eV #[I .u8 0,O N]) (Yq.u underlying150) Yq.PS (by simp[ey,eW]) g (k*2) c C1.toArray _ p (by simp[ey,x];omega)
 have aa:W2.ownsRow n 184 2 (M (J ⟨g,0,N⟩) k d) k (z.take (i*2)++z.drop ((i+1)*2)):=by
  rw[q];refine fZ af (Rw W1 g _ _ _ _ p) (by omega) B ?_ ?_;rw[s,hZ];simp[ey];omega;rw[s];exact Aw m.toList z C1 a 2 k i d ac L hi l (by rw[v,j])
 have ai:w.grownBy W2 (J g):=by
  rw[q];refine aJ (b:=W1) ?_ (dL _ _ _);rw[r];exact aJ (iM (Ro w _)) (dL _ _ _)
 have hb0:(0:lj)<=(i:lj)+1:=by omega
 have hic:i<=d:=by omega
 have hjc:i+1<=d:=by omega
 have hkc:=L;have hc63:d<=9223372036854775807:=by unfold Rx at B;omega
 have ab:=aq X;clear y hg R l j G ac v x r p X L B s q hZ h1;go_enter (Yq.nq func96),ntmps96;go_wp2_with fail
 go_region_law (refine fc Q (Rh 22) (Rh 25) 150 150 Q (M (J ⟨g,0,N⟩) i d) (M (J A) (k-i) (d-(i+1))) (by simp[RY,RZ]) (by simp[RY,RZ]) (ab.o _ _) ?_)
 go_wp2;go_ret;exact⟨Q,aa,ai⟩
theorem Hw n g k d i z w(V:w.ownsRow n 72 3 (M (J ⟨g,0,N⟩) (k+1) d) (k+1) z)(hi:i<=k)(hn:k<=2199023255552)(h1:∀u∈z,u.oneCell'=Y):
  Calls Vp 74 #[M (J ⟨g,0,N⟩) (k+1) d,I K i,I K ((i:lj)+1)] w λe w'=>e=Rc (M (J ⟨g,0,N⟩) k d) /\
   w'.ownsRow n 72 3 (M (J ⟨g,0,N⟩) k d) k (z.take (i*3)++z.drop ((i+1)*3))/\w.grownBy w' (J g):=by
 have⟨i0,aj,hz0,F,hz2⟩:=Ry Yq.OK;obtain⟨y,hr⟩:=V;rcases hr with⟨h0,_⟩|⟨g',cap',m,hv,af,hg,L,B,R,l⟩;cases h0;cases hv;obtain⟨a,hZ⟩:∃a:S Wx,a=(eV #[I K 0,U ⟨#[]⟩,C Z]).cells.toList:=⟨_,Q⟩;obtain⟨f,j⟩:∃f,f=z.drop ((i+1)*3):=⟨_,Q⟩;have G:f.length=(k-i)*3:=by rw[j,lD,y];omega
 obtain⟨A,hA,ad⟩:∃A:Wu,(if d=i+1 then J (⟨g,0,N⟩:Wu)else J ⟨g,(i+1)*3,N⟩)=J A/\Hid (∀t u,f[t]?=J u->w.drew.cell? (A.add t)=J u):=by
  by_cases h:d=i+1
  refine⟨⟨g,0,N⟩,by simp[h],λt u hu=>?_⟩
  grind
  refine⟨⟨g,(i+1)*3,N⟩,by simp[h],λt u hu=>?_⟩;rw[xb,j,tn,<-l,sq]at *;have D:=hu;split at D
  show w.cell? _=_;rw[Rp];simpa[hg]using D;cases D
 have ac:m.toList.length=d*3:=by rw[lY,R]
 obtain⟨C1,v⟩:∃C1,C1=m.toList.take (i*3)++f++m.toList.drop (i*3+f.length):=⟨_,Q⟩;have x:C1.length=d*3:=by rw[v];simp;omega
 obtain⟨W1,r⟩:∃W1,W1=w.drew.setRow g C1.toArray:=⟨_,Q⟩;have p:W1.heap[g]?=J (E C1.toArray 72 (0,0)):=by rw[r];exact Rw w.drew g m _ _ _ hg
 have X:∀T c,(yz #[105,105] T #[M (J ⟨g,0,N⟩) i d,M (J A) (k-i) c]).run Vp w.drew=.ok (M (J ⟨g,0,N⟩) k d) W1:=λT c=>by
  have:=RB (P:=Vp) w.drew 105 T 72 i0 (Yq.u underlying105) aj g i d m hg A (k-i) c f (by rw[F];exact G) ad.o (λu hu=>h1 u (by rw[j]at hu;exact sT hu)) (by omega) (by rw[F,G,R];omega);rw[this,F,r,v,show i+(k-i)=k by omega]
 obtain⟨C2,s⟩:∃C2,C2=C1.take (k*3)++a++C1.drop (k*3+3):=⟨_,Q⟩;obtain⟨W2,q⟩:∃W2,W2=W1.setRow g C2.toArray:=⟨_,Q⟩;have hcr:∀T c,(Rk #[105] T #[M (J ⟨g,k*3,N⟩) 1 c]).run Vp W1=.ok (Re #[]) W2:=λT c=>by
  rw[q,s,hZ];exact mE W1 105 72 T (eV #[I K 0,U ⟨#[]⟩,C Z]) (Yq.u underlying105) Yq.PQ (by simp[ey,eW]) g (k*3) c C1.toArray _ p (by simp[ey,x];omega)
 have aa:W2.ownsRow n 72 3 (M (J ⟨g,0,N⟩) k d) k (z.take (i*3)++z.drop ((i+1)*3)):=by
  rw[q];refine fZ af (Rw W1 g _ _ _ _ p) (by omega) B ?_ ?_;rw[s,hZ];simp[ey];omega;rw[s];exact Aw m.toList z C1 a 3 k i d ac L hi l (by rw[v,j])
 have ai:w.grownBy W2 (J g):=by
  rw[q];refine aJ (b:=W1) ?_ (dL _ _ _);rw[r];exact aJ (iM (Ro w _)) (dL _ _ _)
 have hb0:(0:lj)<=(i:lj)+1:=by omega
 have hic:i<=d:=by omega
 have hjc:i+1<=d:=by omega
 have hkc:=L;have hc63:d<=9223372036854775807:=by unfold Rx at B;omega
 have ab:=aq X;clear y hg R l j G ac v x r p X L B s q hZ h1;go_enter (Yq.nq func74),ntmps74;go_wp2_with fail
 go_region_law (refine fc Q (Rh 22) (Rh 25) 105 105 Q (M (J ⟨g,0,N⟩) i d) (M (J A) (k-i) (d-(i+1))) (by simp[RY,RZ]) (by simp[RY,RZ]) (ab.o _ _) ?_)
 go_wp2;go_ret;exact⟨Q,aa,ai⟩
def jU(base:H)(v:Wx)(i n:H)(xs:S Wx)(a b:Wx)(w:Wj)(e:Ending)(w':Wj):Prop:=
 ∃c,e=Rc c/\w'.ownsRow base 184 2 c (n+1) (xs.take (i*2)++[a,b]++xs.drop (i*2))/\w.grownBy w' v.ownBlock/\(c.ownBlock=v.ownBlock\/∀k,c.ownBlock=J k->w.heap.size<=k)
theorem fd{P:Program}w{d:lk Oper}{c}{a}{b:Exit->Act->Wj->Prop}(e:o.guard=N)(s x:Operand)t f
  (m:o.op=.call {callee:=.builtin .append,args:=#[s,x],argTypes:=#[t,f]}) (i l:Wx) (p:a.eval s=i) (q:a.eval x=l)
   {j:Wj} (n:(yz #[t,f] o.type #[i,l]).run P w=.ok v j) (h:wpList P d b c (a.put o.dst v) j):wpList P d b (o::c) a w:=
 Lib.wpList_append_run w e s x t f m i l p q v j n h
theorem KO f v n x m a b w(e:w.ownsRow f 184 2 v n x)(hn:n<=1000)
  (hv0:w.cell? ⟨m,0,N⟩=J a) (hv1:w.cell? ⟨m,1,N⟩=J b) (h1:a.oneCell'=Y/\b.oneCell'=Y) (s:f<=w.heap.size):
  ∃z y,(∀p,(yz #[150,150] p #[v,M (J ⟨m,0,N⟩) 1 1]).run Vp w=.ok z y)/\jU f v n n x a b w (Rc z) y:=by
 have⟨B,i,l,d,o⟩:=Ry Yq.Oe;have c:∀j u,[a,b][j]?=J u->w.cell? ((⟨m,0,N⟩:Wu).add j)=J u:=by
  intro j u hj;rw[xb]
  grind
 have q:∀u∈[a,b],u.oneCell'=true:=by intro u hu;simp at hu;rcases hu with rfl|rfl<;>simp[h1]
 have A:=e.1;have hx:x.take (n*2)++[a,b]++x.drop (n*2)=x++[a,b]:=by
  grind
 have V:=λp=>run_append_own (P:=Vp) w f 150 p 184 B _ 2 16 (Yq.u underlying150) i l d o Q (by decide) v n x e ⟨m,0,N⟩ 1 1 [a,b] Q c q (by simp[Rx];omega) (by omega) s
 rcases e.2 with⟨rfl,rfl⟩|⟨g,t,L,rfl,hbg,hg,hnc,hcm,X,htake⟩;have T:=pt (by omega);subst T;refine⟨_,_,λp=>RJ (P:=Vp) w 150 p 184 B _ (Yq.u underlying150) i l ⟨m,0,N⟩ 1 1 [a,b] (by rw[d];rfl) c (by omega) (by omega) (by rw[o];omega),_,Q,?_,?_,?_⟩;have⟨z,y,h,R,D,_⟩:=V 0;rw[RJ (P:=Vp) w 150 0 184 B _ (Yq.u underlying150) i l ⟨m,0,N⟩ 1 1 [a,b] (by rw[d];rfl) c (by omega) (by omega) (by rw[o];omega)]at h
 grind
 exact aJ (iM (Ro w _)) (Rr _ _ _);exact xc (λk G=>by simp[dT]at G;omega);by_cases r:n+1<=t
 have F:=λp=>RB (P:=Vp) w 150 p 184 B (Yq.u underlying150) i g n t L hg ⟨m,0,N⟩ 1 1 [a,b] (by rw[d];rfl) c q r (by rw[d,X];simp;omega)
 refine⟨_,_,F,_,Q,?_,?_,?_⟩;have⟨z,y,h,R,D,_⟩:=V 0
 grind
 exact dL _ _ _;exact xt Q;have F:=λp=>run_append_grow (P:=Vp) w 150 p 184 B _ (Yq.u underlying150) i l ⟨g,0,N⟩ n t x (by rw[d];exact A) (λj u hj=>by
   have:=e.cells (g:=g) Q j u hj;exact this) ⟨m,0,N⟩ 1 1 [a,b] (by rw[d];rfl) c (by omega) (by omega) (RN (by omega) (by rw[o];omega))
 refine⟨_,_,F,_,Q,?_,?_,?_⟩;have⟨z,y,h,R,D,_⟩:=V 0;rw[F 0]at h;cases h;rw[hx];exact R;exact aJ (iM (Ro w _)) (Rr _ _ _);exact xc (λk G=>by simp[dT]at G;omega)
theorem Hx(d:H)(v:Wx)(n:H)(p:S Wx)(k:H)(a b:Wx)(w:Wj)(e:w.ownsRow d 184 2 v n p)(u:n<=1000)
  (l:w.cell? ⟨k,0,N⟩=J a) (m:w.cell? ⟨k,1,N⟩=J b) (y:a.oneCell'=Y/\b.oneCell'=Y) (f:d<=w.heap.size):
  Calls Vp 97 #[v,I K n,M (J ⟨k,0,N⟩) 1 1] w (jU d v n n p a b w):=by
 have⟨v',w1,t,s⟩:=KO d v n p k a b w e u l m y f;obtain⟨r,c,x,j,h⟩:∃r c,v=M r n c/\n<=c/\c<=9223372036854775807:=by
  rcases e.2 with⟨rfl,rfl⟩|⟨g,c,cur,rfl,hbg,hg,j,h,hcs,htake⟩
  grind
  exact⟨_,c,Q,j,by unfold Rx at h;omega⟩
 subst x;have HP:=aq s;have i:=aq t;by_cases q:c=n
 subst q;go_enter (Yq.nq func97),ntmps97;go_wp2_with (at_builtin;refine fd _ Q _ _ 150 150 Q _ _ Q Q (i.o _) ?_)
 go_ret;exact HP.o;go_enter (Yq.nq func97),ntmps97;go_wp2_with (at_builtin;refine fd _ Q _ _ 150 150 Q _ _ Q Q (i.o _) ?_)
 go_ret;exact HP.o
theorem Hy g b(a i:lk Wx)h o j k l f w(c:b≠g)(m:w.heap[g]?=J (E a 184 (0,0)))(n:a.size≠0)(d:w.heap[b]?=J (E i h (0,0))):
  (callFunc 115 #[M (J ⟨b,0,N⟩) j k,M (J ⟨g,o,N⟩) l f]).run Vp w=.ok (.value (C Z)) w:=by
 rw[run_callFunc_extern (Yq.nq func115) (by kernel_rfl) (by kernel_rfl) (by kernel_rfl) (e:=Extern.SlicesOverlaps.overlaps #[150,150] #[4]) (by kernel_rfl),
  Lib.run_overlaps_apart w 150 4 184 (Yq.u underlying150) 2 (λw=>Yq.s (sizeOf184 w)) ⟨b,0,N⟩ ⟨g,o,N⟩ j k l f c h 184 i.size a.size (by simp[Rv,d]) (by simp[Rv,m]) n (by simp[Ru,d]) (by simp[Ru,d])]
 rfl
theorem Hz{l:Type}(c d C1 C2:S l)(n i e:H)(a b:l)(j:c.length=e*2)(hk:n+1<=e)(hi:i<=n)(hx:c.take (n*2)=d)
  (k:C1=c.take ((i+1)*2)++d.drop (i*2)++c.drop ((i+1)*2+(d.drop (i*2)).length)) (f:C2=C1.take (i*2)++[a,b]++C1.drop (i*2+2)):
  C2.length=e*2/\C2.take ((n+1)*2)=d.take (i*2)++[a,b]++d.drop (i*2):=by
 have h:d.length=n*2:=by grind
 have hdl:(d.drop (i*2)).length=(n-i)*2:=by grind
 have e1:c.take (i*2)=d.take (i*2):=by grind
 have hA:(c.take ((i+1)*2)).length=(i+1)*2:=by rw[tL,j];omega
 have hC1l:C1.length=e*2:=by rw[k];simp;omega
 have o:C1.take (i*2)=d.take (i*2):=by
  grind
 have m:C1.drop (i*2+2)=d.drop (i*2)++c.drop ((i+1)*2+(d.drop (i*2)).length):=by
  grind
 have hil:(d.take (i*2)).length=i*2:=by rw[tL,h];omega
 refine⟨?_,?_⟩
 grind
 rw[f,o,m,<-pA];exact tb (by simp;omega)
theorem Cf k g n c i xs q a b w(aa:w.ownsRow k 184 2 (M (J ⟨g,0,N⟩) n c) n xs)(hn:n<=1000)(hi:i<n)(l:n+1<=c)
  (tv:Ww) (s:w.heap[q]?=J (E #[a,b] tv (0,0))) (ab:q≠g) (h1:a.oneCell'=Y/\b.oneCell'=Y) (ad:∀u∈xs,u.oneCell'=Y):
  Calls Vp 97 #[M (J ⟨g,0,N⟩) n c,I K i,M (J ⟨q,0,N⟩) 1 1] w (jU k (M (J ⟨g,0,N⟩) n c) i n xs a b w):=by
 have⟨i0,af,hz0,ac,hz2⟩:=Ry Yq.Oe;obtain⟨B,hr⟩:=aa;rcases hr with⟨h0,_⟩|⟨g',cap',e,al,ap,hg,ar,G,T,f⟩;cases h0;cases al;have X:e.toList.length=c*2:=by rw[lY,T]
 obtain⟨cs,d⟩:∃cs,cs=xs.drop (i*2):=⟨_,Q⟩;have r:cs.length=(n-i)*2:=by rw[d,lD,B];omega
 obtain⟨C1,t⟩:∃C1,C1=e.toList.take ((i+1)*2)++cs++e.toList.drop ((i+1)*2+cs.length):=⟨_,Q⟩;obtain⟨C2,R⟩:∃C2,C2=C1.take (i*2)++[a,b]++C1.drop (i*2+2):=⟨_,Q⟩;have⟨z,F⟩:=Hz e.toList xs C1 C2 n i c a b X l (by omega) f (by rw[t,d]) R;have A:C1.length=c*2:=by rw[t];simp only[lP,tL,lD,X,r];omega
 obtain⟨W1,h⟩:∃W1,W1=w.drew.setRow g C1.toArray:=⟨_,Q⟩;obtain⟨W2,p⟩:∃W2,W2=W1.setRow g C2.toArray:=⟨_,Q⟩;have m:W1.heap[g]?=J (E C1.toArray 184 (0,0)):=by rw[h];exact Rw w.drew g e _ _ _ hg
 have aj:∀lb cb,(callFunc 115 #[M (J ⟨q,0,N⟩) 1 1,M (J ⟨g,(i+1)*2,N⟩) lb cb]).run Vp w=.ok (.value (C Z)) w:=λlb cb=>
  Hy g q e _ tv ((i+1)*2) 1 1 lb cb w ab hg (by omega) s
 have y:∀V L sc,(xv #[150,150] V #[M (J ⟨g,(i+1)*2,N⟩) (n-i) L,M (J ⟨g,i*2,N⟩) (n+1-i) sc]).run Vp w.drew=.ok (goInt ((n-i:H):lj)) W1:=λV L sc=>by
  have hm:R5 (n+1-i) (n-i)=n-i:=Nat.min_eq_right (by omega);rw[fY (P:=Vp) w.drew 150 150 V 184 i0 g ((i+1)*2) (n-i) L ⟨g,i*2,N⟩ (n+1-i) sc e 184 cs (Yq.u underlying150) af hg (by rw[hm,ac,r])
   (λj v hj=>by
    rw[xb];rw[d,tn,<-f,sq]at hj;split at hj
    show w.cell? _=_;rw[Rp];simpa[hg]using hj;cases hj)
   (by rw[r,T];omega) (λv s=>ad v (by rw[d]at s;exact sT s)),h,t,hm]
 have x:∀V L,(xv #[150,150] V #[M (J ⟨g,i*2,N⟩) (n+1-i) L,M (J ⟨q,0,N⟩) 1 1]).run Vp W1=.ok (goInt 1) W2:=λV L=>by
  have hm:R5 1 (n+1-i)=1:=R4 (by omega);have ai:W1.heap[q]?=J (E #[a,b] tv (0,0)):=by rw[h,Rz w.drew g q _ ab];exact s
  rw[fY (P:=Vp) W1 150 150 V 184 i0 g (i*2) (n+1-i) L ⟨q,0,N⟩ 1 1 C1.toArray 184 [a,b] (Yq.u underlying150) af m (by rw[hm,ac];rfl)
   (λj v hj=>by
    rw[xb,Rp];simpa[ai]using hj)
   (by simp[A];omega) (λv s=>by simp at s;rcases s with rfl|rfl<;>simp[h1]),p,R,hm]
  rfl
 have D:jU k (M (J ⟨g,0,N⟩) n c) i n xs a b w (Rc (M (J ⟨g,0,N⟩) (n+1) c)) W2:=by
  refine⟨_,Q,?_,?_,xt Q⟩;rw[p];exact fZ ap (Rw W1 g _ _ _ _ m) l G (by simp[z]) (by simpa using F);rw[p];refine aJ (b:=W1) ?_ (dL _ _ _);rw[h];exact aJ (iM (Ro w _)) (dL _ _ _)
 have HP:=aq D;have h63:c<=9223372036854775807:=by unfold Rx at G;omega
 have hz2':¬((i:lj)=(n:lj)):=by omega
 have hc1:¬c=i:=by omega
 have hc2:¬c=i+1:=by omega
 have H1:=aq y;have H2:=aq x;have hw1:IntKind.i64.wrap ((i:lj)+1)=(i:lj)+1:=by rw[IntKind.wrap_i64];omega
 have hb0:(0:lj)<=(i:lj)+1:=by omega
 have htn:((i:lj)+1).toNat=i+1:=by omega
 have hb3:(i:lj)<=(n:lj)+1:=by omega
 have hb4:(i:lj)<=(n:lj):=by omega
 have hin:i<=n:=by omega
 clear B hg T f X d r t R z F A h p m y x D s h1 ad ar G;go_enter (Yq.nq func97),ntmps97;go_wp2_with (simp only[aj])
 go_region_law (refine mF Q _ _ 150 150 Q (M (J ⟨g,(i+1)*2,N⟩) (n-i) (c-(i+1))) (M (J ⟨g,i*2,N⟩) (n+1-i) (c-i)) (by simp[RY,RZ]) (by simp[RY,RZ]) (H1.o _ _ _) ?_)
 have h2:=H2.o;go_wp2;go_ret;exact HP.o
theorem Es r g n c i q vb a b w(a5:w.ownsRow r 184 2 (M (J ⟨g,0,N⟩) n c) n q)(hn:n<=1000)(hi:i<n)(hroom:c<n+1)
  (tv:Ww) (R:w.heap[vb]?=J (E #[a,b] tv (0,0))) (h1:a.oneCell'=Y/\b.oneCell'=Y) (a7:∀u∈q,u.oneCell'=Y) (a0:r<=w.heap.size):
  Calls Vp 97 #[M (J ⟨g,0,N⟩) n c,I K i,M (J ⟨vb,0,N⟩) 1 1] w (jU r (M (J ⟨g,0,N⟩) n c) i n q a b w):=by
 have⟨i0,av,be,a1,a4⟩:=Ry Yq.Oe;obtain⟨m,hr⟩:=a5;rcases hr with⟨h0,_⟩|⟨g',cap',cur,bi,hbg,hg,bb,a8,bl,z⟩
 .cases h0
 cases bi;have a9:c=n:=by omega
 subst a9;have bd:g<w.heap.size:=(eS hg).1;have p:∀j u,q[j]?=J u->w.cell? ⟨g,j,N⟩=J u:=λj u s=>by
  rw[<-z,sq]at s;split at s
  .rw [Rp];simpa[hg]using s
  .cases s
 have aj:(Rl i0.size i (M (J ⟨g,0,N⟩) i c)).run Vp w.drew=.ok (q.take (i*2)).toArray w.drew:=by
  rw[a1];exact run_firstCells_some w.drew 2 i ⟨g,0,N⟩ i c (q.take (i*2)) (by rw[tL,m];omega) (λj v s=>by
   rw[xb,zA];rw[sq]at s;split at s
   .exact p j v s
   .cases s)
 have a3:(c:lj)+1-(i:lj)=((c+1-i:H):lj):=by omega
 have a2:i+(c+1-i)=c+1:=by omega
 obtain⟨G,hG⟩:∃G,G=grownCap w (c+1) c 184:=⟨_,Q⟩;obtain⟨Z1,ar⟩:∃Z1,Z1=(Rj (eV #[I .u8 0,O N]).cells (c+1-i)):=⟨_,Q⟩;obtain⟨Z2,ap⟩:∃Z2,Z2=(Rj (eV #[I .u8 0,O N]).cells (G-(c+1))):=⟨_,Q⟩;have af:Z1.size=(c+1-i)*2:=by rw[ar,RQ];rfl
 have ab:Z2.size=(G-(c+1))*2:=by rw[ap,RQ];rfl
 obtain⟨ROW,x⟩:∃ROW:lk Wx,ROW=(q.take (i*2)).toArray++Z1++Z2:=⟨_,Q⟩;have bk:c+1<=G:=by rw[hG];exact grownCap_ge w _ _ _
 have D:G<=Rx:=by rw[hG];exact grownCap_le_maxLen w (c+1) c 184 (by simp only[Rx];omega)
 have al:ROW.size=G*2:=by
  rw[x];simp only[Array.size_append,lZ,tL,m,af,ab];omega
 obtain⟨W0,l⟩:∃W0,W0=w.drew.alloc (E ROW 184):=⟨_,Q⟩;have a6:∀F,(yz #[150,3] F #[M (J ⟨g,0,N⟩) i c,I K ((c:lj)+1-(i:lj))]).run Vp w =
   .ok (M (J ⟨w.heap.size,0,N⟩) (c+1) G) W0:=λF=>by
  have h:=Lib.run_append_grow_zeros (P:=Vp) w 150 3 F 184 i0 _ K K (Yq.u underlying150) (Yq.u underlying3) av be (J ⟨g,0,N⟩) i c (q.take (i*2)) aj (c+1-i) (by omega) (by omega) (by omega) (by omega) (by rw[a4];omega) (by rw[a4,a2];exact RN (by omega) (by omega));rw[a2]at h;rw[a3,h,l,x,ar,ap,hG]
 have y:W0.heap[w.heap.size]?=J (E ROW 184 (0,0)):=by rw[l];exact RU w.drew _
 obtain⟨C1,X⟩:∃C1,C1=ROW.toList.take (i*2)++[a,b]++ROW.toList.drop (i*2+2):=⟨_,Q⟩;have B:C1.length=G*2:=by rw[X];simp only[lP,tL,lD,lY,al,lC,lN];omega
 obtain⟨cs,d⟩:∃cs,cs=q.drop (i*2):=⟨_,Q⟩;have L:cs.length=(c-i)*2:=by rw[d,lD,m];omega
 obtain⟨C2,T⟩:∃C2,C2=C1.take ((i+1)*2)++cs++C1.drop ((i+1)*2+cs.length):=⟨_,Q⟩;have ai:C2.length=G*2:=by rw[T];simp only[lP,tL,lD,B,L];omega
 have V:(q.take (i*2)).length=i*2:=by rw[tL,m];omega
 have ad:C2.take ((c+1)*2)=q.take (i*2)++[a,b]++q.drop (i*2):=by
  have e0:ROW.toList.take (i*2)=q.take (i*2):=by
   rw[x];simp only[Array.toList_append,pA];exact tb V
  have e1:C1.take ((i+1)*2)=q.take (i*2)++[a,b]:=by
   rw[X,e0];exact tb (by simp only[lP,V,lC,lN];omega)
  rw[T,e1,d];exact tb (by rw[<-d];simp only[lP,V,L,lC,lN];omega)
 obtain⟨W1,e⟩:∃W1,W1=W0.setRow w.heap.size C1.toArray:=⟨_,Q⟩;have A:W1.heap[w.heap.size]?=J (E C1.toArray 184 (0,0)):=by rw[e];exact Rw W0 _ _ _ _ _ y
 obtain⟨W2,f⟩:∃W2,W2=W1.drew.setRow w.heap.size C2.toArray:=⟨_,Q⟩;have t:∀k,k<w.heap.size->W0.heap[k]?=w.heap[k]?:=λk hk=>by rw[l];exact bA w.drew _ k hk
 have hcp1:∀F dc,(xv #[150,150] F #[M (J ⟨w.heap.size,i*2,N⟩) (c+1-i) dc,M (J ⟨vb,0,N⟩) 1 1]).run Vp W0=.ok (goInt 1) W1:=λF dc=>by
  have hm:R5 1 (c+1-i)=1:=R4 (by omega);rw[fY (P:=Vp) W0 150 150 F 184 i0 w.heap.size (i*2) (c+1-i) dc ⟨vb,0,N⟩ 1 1 ROW 184 [a,b] (Yq.u underlying150) av y (by rw[hm,a1];rfl)
   (λj v s=>by
    have:=t vb ((eS R).1);rw[xb,Rp];simpa[this,R]using s)
   (by rw[al];simp;omega) (λv R=>by simp at R;rcases R with rfl|rfl<;>simp[h1]),e,X,hm]
  rfl
 have aa:∀F dc sc,(xv #[150,150] F #[M (J ⟨w.heap.size,(i+1)*2,N⟩) (c-i) dc,M (J ⟨g,i*2,N⟩) (c-i) sc]).run Vp W1.drew=.ok (goInt ((c-i:H):lj)) W2:=λF dc sc=>by
  have hm:R5 (c-i) (c-i)=c-i:=Nat.min_self _;rw[fY (P:=Vp) W1.drew 150 150 F 184 i0 w.heap.size ((i+1)*2) (c-i) dc ⟨g,i*2,N⟩ (c-i) sc C1.toArray 184 cs (Yq.u underlying150) av A (by rw[hm,a1,L])
   (λj v s=>by
    rw[xb];rw[d,tn]at s;show W1.cell? _=_;rw[cB (w:=w) (w':=W1) (a:=⟨g,i*2+j,N⟩) (by rw[e,Rz W0 _ g _ (by omega)];exact t g bd)];exact p _ v s)
   (by rw[L];simp[B];omega) (λv R=>a7 v (by rw[d]at R;exact sT R)),f,T,hm]
 have ac:jU r (M (J ⟨g,0,N⟩) c c) i c q a b w (Rc (M (J ⟨w.heap.size,0,N⟩) (c+1) G)) W2:=by
  refine⟨_,Q,?_,?_,xc (λk hk=>by simp[dT]at hk;omega)⟩
  .rw [f];exact fZ a0 (Rw W1.drew _ _ _ _ _ A) bk D (by simp[ai]) (by simpa using ad)
  .refine ⟨by rw[f,e,l];rfl,by rw[f,e,l];rfl,by rw[f,e,l];rfl,by rw[f,e];simpa using(by rw[l];simp),λk hk _=>?_⟩;rw[f,Rz _ _ k _ (by omega)];show W1.heap[k]?=_;rw[e,Rz _ _ k _ (by omega)];exact t k hk
 have HP:=aq ac;have hz2':¬((i:lj)=(c:lj)):=by omega
 have hc1:¬c=i:=by omega
 have hc2:¬G=i:=by omega
 have hc3:¬G=i+1:=by omega
 have hG63':G<=9223372036854775807:=by unfold Rx at D;omega
 have H2:=aq aa;have HR:=aq a6;have hw1:IntKind.i64.wrap ((i:lj)+1)=(i:lj)+1:=by rw[IntKind.wrap_i64];omega
 have hb0:(0:lj)<=(i:lj)+1:=by omega
 have htn:((i:lj)+1).toNat=i+1:=by omega
 have hb3:(i:lj)<=(c:lj)+1:=by omega
 have hb4:(i:lj)<=(c:lj):=by omega
 have hin:i<=c:=by omega
 clear m hg bl z d L X T ai ad B l e f y A aa ac R h1 a7 bb a8 aj a3 a2 hG ar ap af ab x al V t p a6 D;go_enter (Yq.nq func97),ntmps97;go_wp2_with (at_builtin;refine fd _ Q _ _ 150 3 Q _ _ Q Q (HR.o _) ?_)
 go_region_law (refine mF Q _ _ 150 150 Q (M (J ⟨w.heap.size,(i+1)*2,N⟩) (c-i) (G-(i+1))) (M (J ⟨g,i*2,N⟩) (c-i) (c-i)) (by simp[RY,RZ]) (by simp[RY,RZ]) (H2.o _ _ _) ?_)
 go_wp2;go_ret;exact HP.o
theorem HU(c:H)(v:Wx)(n i:H)(l:S Wx)(k:H)(a b:Wx)(w:Wj)(d:w.ownsRow c 184 2 v n l)(t:n<=1000)(hi:i<=n)
  (p:Ww) (o:w.heap[k]?=J (E #[a,b] p (0,0))) (r:v.ownBlock≠J k) (s:a.oneCell'=Y/\b.oneCell'=Y) (m:∀u∈l,u.oneCell'=Y) (f:c<=w.heap.size):
  Calls Vp 97 #[v,I K i,M (J ⟨k,0,N⟩) 1 1] w (jU c v i n l a b w):=by
 by_cases q:i=n
 subst q;exact Hx c v i l k a b w d t (by simp[Rp,o]) (by simp[Rp,o]) s f;rcases d.2 with⟨rfl,rfl⟩|⟨g,h,cur,rfl,hbg,hg,hnc,hcm,hcs,htake⟩;omega;by_cases j:n+1<=h
 exact Cf c g n h i l k a b w d t (by omega) j p o (λe=>r (by simp[dT,e])) s m;exact Es c g n h i l k a b w d t (by omega) (by omega) p o s m f
theorem ao{s}{f}(h:w.ownsRow d s r v n f):∃a b,v=M a n b/\(a=N->b=0):=by
 rcases h.2 with⟨rfl,rfl⟩|⟨g,b,cur,rfl,_⟩
 grind
 grind
structure Made (A:H->Prop)(n:H)(w w':Wj)(f:S kr->S Ver)(g:H)(hv kv:Wx)(ks:S (kr×gL Wu)):Prop where
 below:Below w.heap.size w w'
 node:w'.ownsRow w.heap.size 152 3 (M (J ⟨g,0,N⟩) 1 1) 1 [C (!(f []).isEmpty),hv,kv]
 kids:w'.ownsRow w.heap.size 184 2 kv ks.length (aI ks)
 apart:kv.ownBlock≠J g
 PF:bX A w hv (f [])
 sorted:ks.Pairwise (λa b=>a.1<b.1)
 child:∀c q,(c,q)∈ks->au A n w q (λk=>f (c::k))
 Ol:∀c,(∀q,(c,q) ∉ ks)->∀k,f (c::k)=[]
 OD:∀c q,(c,q)∈ks->q≠N
theorem Et w:Calls Vp 93 #[O N] w λe a=>e=Rc (O (J ⟨w.heap.size,0,N⟩))/\a=w.alloc (E #[C Z,M N 0 0,M N 0 0] 152):=by
 go_enter (Yq.nq func93),ntmps93;go_wp2;go_ret
 simp_all
theorem Cg(A:H->Prop)g a(x:gL Wu)u y(k:gL Wu)r p f w
  (L:w.cell? ⟨g,0,N⟩=J (C a)) (P:w.cell? ⟨g,1,N⟩=J (M x u y)) (D:w.cell? ⟨g,2,N⟩=J (M k r p)) (B:jR A w (M k r p) f) (F:f.length<=256):
  Calls Vp 93 #[O (J ⟨g,0,N⟩)] w λe c=>∃l n z q,e=Rc (O (J ⟨l.heap.size,0,N⟩))/\l.ownsRow w.heap.size 184 2 (M n z q) f.length (aI f)/\Below w.heap.size w l /\
   c=l.alloc (E #[C a,M x u y,M n z q] 152):=by
 have j:∀h:Wj,h.heap=w.heap->Calls Vp 111 #[M k r p] h λe c=>∃s,e=Rc s/\c.ownsRow h.heap.size 184 2 s f.length (aI f)/\Below h.heap.size h c:=λh G=>
  Cd A _ f h (B.Nx (λb i _=>⟨i,by rw[G]⟩)) F
 have v:=aq j;clear j B;go_enter (Yq.nq func93),ntmps93;go_wp2_with fail
 go_region_held3 (λc=>c.cell? ⟨g,0,N⟩=J (C a)/\c.cell? ⟨g,1,N⟩=J (M x u y)/\c.cell? ⟨g,2,N⟩=J (M k r p)) (go_keep)
  (first|(go_at_call 111;refine(v.o _ ?_).m ?_;rfl;rintro e c ⟨s,rfl,d,i⟩;obtain⟨n,q,rfl,-⟩:=ao d;have k0:=ag (W:=w.drew) i L;have k1:=ag (W:=w.drew) i P;have k2:=ag (W:=w.drew) i D))
 go_wp2;go_ret;exact⟨c,n,_,q,Q,d,(bR _ w).drew.t i,Q⟩
theorem vZ(w:Wj)(a:H)(x y z:Wx)(b:a<=w.heap.size):(w.alloc (E #[x,y,z] 152)).ownsRow a 152 3 (M (J ⟨w.heap.size,0,N⟩) 1 1) 1 [x,y,z]:=
 World.ownsRow_lit w #[x,y,z] 1 b (by simp only[Rx];omega) Q
theorem mG(A:H->Prop)n(p:gL Wu)(f:S kr->S Ver)w(h:au A (n+1) w p f):
  Calls Vp 93 #[O p] w λe l=>∃g z y i,e=Rc (O (J ⟨g,0,N⟩))/\Made A n w l f g z y i:=by
 rcases h with⟨rfl,h⟩|⟨g,z,y,i,D,hA,P,T,F,v,j,x,o,b⟩;refine(Et w).m ?_;rintro e l ⟨rfl,rfl⟩;refine⟨w.heap.size,M N 0 0,M N 0 0,[],rfl,(Q9).alloc Q0 _,?_,Rq _ _ _ _,by simp[dT],by rw[h];exact pe A w,List.Pairwise.nil,λc q s=>n8 s wz,λc _ k=>h _,λc q s=>n8 s wz⟩;rw[h];exact vZ w _ _ _ _ Q0;cases D;have t:=v;have d:=j;obtain⟨L,R,rfl,-⟩:=t;obtain⟨B,G,rfl,-⟩:=d;refine(Cg A g _ L _ R B _ G i w P T F j (nA i x)).m ?_;rintro e l ⟨u,va,vl,vc,rfl,a,r,rfl⟩;refine⟨u.heap.size,_,_,i,Q,r.alloc r.size _,vZ u _ _ _ _ r.size,a.alloc _,?_,v,x,o,b.1,b.2⟩;intro e;have:=(a.lt _ e).2;omega
def Ph(a:Bool)(b g:H):gL Wu:=if a=Z/\b=0 then N else J ⟨g,0,N⟩
theorem qp g a(f:gL Wu)b d w(hkl:b<=1000)
  (c0:w.cell? ⟨g,0,N⟩=J (C a)) (c2:w.cell? ⟨g,2,N⟩=J (M f b d)):
  Calls Vp 94 #[O (J ⟨g,0,N⟩)] w λe h=>e=Rc (O (Ph a b g))/\h=w:=by
 cases a with
 |true=>
  go_enter (Yq.nq func94),ntmps94;go_wp2;go_ret;exact⟨by simp[Ph],Q⟩
 |false=>
  by_cases c:b=0
  subst c;go_enter (Yq.nq func94),ntmps94;go_wp2;go_ret;exact⟨by simp[Ph],Q⟩;have h0':((b:lj)==0)=false:=by simp;omega
  go_enter (Yq.nq func94),ntmps94;go_wp2;go_ret;exact⟨by simp[Ph,c],Q⟩
theorem iN{c:Type}(m:H)(g:c->S Wx)(b:∀a,(g a).length=m)(l:S c)(i:H):(l.flatMap g).take (i*m)=(l.take i).flatMap g:=by
 induction l generalizing i with
 |nil=>simp
 |cons a l ih=>
  cases i with
  |zero=>simp
  |succ i=>
   rw[uc,List.take_succ_cons,uc,List.take_append,b];have e:(i+1)*m-m=i*m:=by grind
   rw[e,ih,tO (by rw[b,R7,R8];omega)]
theorem iO{c:Type}(m:H)(g:c->S Wx)(b:∀a,(g a).length=m)(l:S c)(i:H):(l.flatMap g).drop (i*m)=(l.drop i).flatMap g:=by
 induction l generalizing i with
 |nil=>simp
 |cons a l ih=>
  cases i with
  |zero=>simp
  |succ i=>
   rw[uc,List.drop_succ_cons,List.drop_append,b];have e:(i+1)*m-m=i*m:=by grind
   rw[e,ih,List.drop_eq_nil_of_le (by rw[b,R7,R8];omega),List.nil_append]
theorem we a r(c:kr)(q:gL Wu):
  (aI a).take (r*2)++[I .u8 (c.toNat:lj),O q]++(aI a).drop (r*2)=aI (a.take r++(c,q)::a.drop r):=by
 unfold aI;rw[iN 2 _ (λ_=>Q),iO 2 _ (λ_=>Q)];simp
theorem wg a r:(aI a).take (r*2)++(aI a).drop ((r+1)*2)=aI (a.take r++a.drop (r+1)):=by
 unfold aI;rw[iN 2 _ (λ_=>Q),iO 2 _ (λ_=>Q)];simp
theorem wh h r:(aA h).take (r*3)++(aA h).drop ((r+1)*3)=aA (h.take r++h.drop (r+1)):=by
 unfold aA;rw[iN 3 _ (λ_=>Q),iO 3 _ (λ_=>Q)];simp
theorem wi(a:S (kr×gL Wu))(r:H)(c:kr)(q:gL Wu)(hr:r<a.length)(hc:a[r].1=c):(aI a).set (r*2+1) (O q)=aI (a.take r++(c,q)::a.drop (r+1)):=by
 have e1:a=a.take r++a[r]::a.drop (r+1):=by simp_all
 have hl:(aI (a.take r)).length=r*2:=by rw[fH,tL,R4 (by omega)]
 have e2:aI a=aI (a.take r)++(I .u8 (c.toNat:lj) :: O a[r].2::aI (a.drop (r+1))):=by
  have e4:∀ (A B:S (kr×gL Wu)) (x:kr×gL Wu),aI (A++x::B)=aI A++(I .u8 (x.1.toNat:lj) :: O x.2::aI B):=λA B x=>by simp[aI]
  grind
 have e3:aI (a.take r++(c,q)::a.drop (r+1))=aI (a.take r)++(I .u8 (c.toNat:lj) :: O q::aI (a.drop (r+1))):=by simp[aI]
 have:r*2+1-r*2=1:=by omega
 grind
def aZ(ks:S (kr×gL Wu))(r:H)(c:kr)(q:gL Wu)(d:H):S (kr×gL Wu):=ks.take r++(c,q)::ks.drop (r+d)
theorem jm{f}(k:f.Pairwise (λa b=>a.1<b.1))(i:Place f c r)(q:gL Wu)d(n:d=if rp f c r then 1 else 0):(aZ f r c q d).Pairwise (λa b=>a.1<b.1):=by
 unfold aZ;rw[List.pairwise_append];have hlo:∀x∈f.take r,x.1<c:=by
  intro x m;have⟨j,l,e⟩:=gM m;rw[tL]at l;rw[List.getElem_take]at e;rw[<-e];exact i.lo j (by omega) (by omega)
 have hhi:∀x∈f.drop (r+d),c<x.1:=by
  intro x m;have⟨j,l,e⟩:=gM m;rw[lD]at l;rw[List.getElem_drop]at e;have h1:=i.hi (r+d+j) (by omega) (by omega);by_cases hne:c=x.1
  exfalso;cases h:rp f c r with
  |true=>
   rw[h]at n;have⟨hr,hrc⟩:=Place.mem h;have h2:=lQ k r (r+d+j) (by simp at n;omega) (by omega)
   grind
  |false=>
   have:=i.O3 k h x.2
   grind
  grind
 refine⟨k.sublist (List.take_sublist _ _),?_,?_⟩;rw[List.pairwise_cons]
 grind
 grind
theorem yQ{e:S (kr×gL Wu)}(l:e.Pairwise (λa b=>a.1<b.1)){q':gL Wu}(m:(c,q')∈e)(n:(c,q)∈e):q'=q:=by
 have⟨i,r,k⟩:=gM m;have⟨j,o,f⟩:=gM n;by_cases d:i=j
 grind
 rcases Nat.lt_or_gt_of_ne d with h|h;have:=lQ l i j h o;rw[k,f]at this;simp at this;have:=lQ l j i h r;rw[k,f]at this;simp at this
theorem r9{e}(l:e.Pairwise (λa b=>a.1<b.1))(k:Place e c r)(q:gL Wu)d(j:d=if rp e c r then 1 else 0)(f:kr)(x:gL Wu)
  (h:(f,x)∈aZ e r c q d):(f=c/\x=q)\/(f≠c/\(f,x)∈e):=by
 by_cases i:f=c
 subst i;exact xt ⟨Q,yQ (jm l k q d j) h (by unfold aZ;simp)⟩;refine xc ⟨i,?_⟩;unfold aZ at h
 grind
theorem wj{f}(_hs:f.Pairwise (λa b=>a.1<b.1))(q:gL Wu)d(hd:d=if rp f c r then 1 else 0)(h:kr)
  (j:∀x,(h,x) ∉ aZ f r c q d):h≠c/\∀x,(h,x) ∉ f:=by
 have k:h≠c:=λe=>j q (by subst e;unfold aZ;simp)
 refine⟨k,λx l=>j x ?_⟩;unfold aZ;cases i:rp f c r with
 |false=>
  have:d=0:=by grind
  subst this;rw[<-List.take_append_drop r f,List.mem_append]at l
  grind
 |true=>
  have:d=1:=by grind
  have⟨hr,hrc⟩:=Place.mem i;have e1:f=f.take r++f[r]::f.drop (r+1):=by simp_all
  grind
def upd(f:S kr->S Ver)(key:S kr)(h:S Ver):S kr->S Ver:=λk=>if k=key then h else f k
theorem Ax(a:nF)(h:0<a.size):a.data.toList=a[0]::(a.extract 1 a.size).data.toList:=by
 have e:(a.extract 1 a.size).data.toList=a.data.toList.drop 1:=by
  simp;exact tO (by simp)
 rw[e];have b:0<a.data.toList.length:=by simp_all
 exact(List.getElem_cons_drop b).s
theorem dM(i:n=ks.length)(h:w.ownsRow r 184 2 v n (aI ks))(f:∀k,v.ownBlock=J k->A k):jR A w v ks:=by
 subst i;rcases h.2 with⟨rfl,e⟩|⟨g,b,cur,rfl,hbg,d,hnc,hcm,hcs,htake⟩;have:=vf.1 e;subst this;exact⟨N,0,rfl,λ_=>Q,λh=>n8 Q h⟩;refine⟨_,b,Q,(λh=>by cases h),λ_=>⟨g,Q,f g Q,(eS d).1,λj c=>?_⟩⟩;rw[fH]at c;exact h.cellAt j c
theorem ol{h}(l:n=h.length)(c:w.ownsRow r 72 3 v n (aA h))(e:∀k,v.ownBlock=J k->A k):bX A w v h:=by
 subst l;rcases c.2 with⟨rfl,f⟩|⟨g,b,cur,rfl,hbg,i,hnc,hcm,hcs,htake⟩;have:=vf.1 f;subst this;exact⟨N,0,rfl,λ_=>Q,λh=>n8 Q h⟩;refine⟨_,b,Q,(λh=>by cases h),λ_=>⟨g,Q,e g Q,(eS i).1,λj d=>?_⟩⟩;rw[fG]at d;exact c.cellAt j d
theorem cH{l z}(h:w.ownsRow n 152 3 (M (J ⟨g,0,N⟩) 1 1) 1 [v,l,z]):
  (w.cell? ⟨g,0,N⟩=J v/\w.cell? ⟨g,1,N⟩=J l/\w.cell? ⟨g,2,N⟩=J z)/\∀j,w.frozen? ⟨g,j,N⟩=false:=
 ⟨⟨h.cellAt 0 (by omega),h.cellAt 1 (by omega),h.cellAt 2 (by omega)⟩,λj=>h.frozenAt j⟩
def Grow(A:H->Prop)(w:Wj):H->Prop:=λb=>(A b/\b<w.heap.size)\/w.heap.size<=b
def L8(n:H):Prop:=∀ (A:H->Prop)(p:gL Wu)(f:S kr->S Ver)(a:nF)(b:Wx)(h:S Ver)(w:Wj),au A n w p f->a.size<n->a.size<=1000->bX A w b h->h≠[] ->
 Calls Vp 73 #[O p,U a,b] w λe c=>∃g,e=Rc (O (J ⟨g,0,N⟩))/\Below w.heap.size w c/\au (Grow A w) n c (J ⟨g,0,N⟩) (upd f a.data.toList h)
theorem kD(e:Below w.heap.size w i):∀b,A b->b<w.heap.size->Grow A w b/\i.heap[b]?=w.heap[b]?:=
 λb d a=>⟨xt ⟨d,a⟩,e.block b a⟩
theorem KP(f:S kr->S Ver)h:upd f [] h []=h:=by simp[upd]
theorem wk(f:S kr->S Ver)h(c:kr)k:upd f [] h (c::k)=f (c::k):=by simp[upd]
theorem jV(f:S kr->S Ver)h(c:kr)k:upd f (c::k) h []=f []:=by simp[upd]
theorem upd_same(f:S kr->S Ver)h(c:kr)k:(λx=>upd f (c::k) h (c::x))=upd (λx=>f (c::x)) k h:=by funext x;simp[upd]
theorem qq(f:S kr->S Ver)h(c d:kr)k(a:d≠c):(λx=>upd f (c::k) h (d::x))=λx=>f (d::x):=by funext x;simp[upd,a]
theorem se{j}{l r}(a:Made A n w j f g l r p)b i h(u:bX A w i h)(v:b=!h.isEmpty)o
  (s:o=(j.setCell ⟨g,0,N⟩ (C b)).setCell ⟨g,1,N⟩ i):
  Below w.heap.size w o/\au (Grow A w) (n+1) o (J ⟨g,0,N⟩) (upd f [] h):=by
 subst s;have m:=a.node.lt g Q;have s1:=a.node.stored 0 (C b);have s2:=s1.1.stored 1 i;have d:Below w.heap.size w ((j.setCell ⟨g,0,N⟩ (C b)).setCell ⟨g,1,N⟩ i):=(a.below.setCell m.1 _).setCell m.1 _;have⟨⟨y,B,t⟩,fz⟩:=cH s2.1;refine⟨d,xc ⟨g,i,r,p,Q,xc m.1,?_,B,t,?_,?_,a.sorted,?_,?_,a.OD⟩⟩;rw[KP,<-v];exact y;exact dW.Nx u (kD d);exact dM Q (a.kids.kept (aJ s1.2 s2.2) (xc a.apart)) (λk e=>xc (a.kids.lt k e).1);intro c q x;have:(λk=>upd f [] h (c::k))=λk=>f (c::k):=by funext k;exact wk f h c k
 exact au.Nx (kD d) n q _ (a.child c q x);exactλc z k=>a.Ol c z k
theorem yR n(A:H->Prop)(p:gL Wu)(f:S kr->S Ver)(b:nF)k h w(r:au A (n+1) w p f)(q:b.size=0)(l:bX A w k h)(c:h≠[]):
  Calls Vp 73 #[O p,U b,k] w λe j=>∃g,e=Rc (O (J ⟨g,0,N⟩))/\Below w.heap.size w j/\au (Grow A w) (n+1) j (J ⟨g,0,N⟩) (upd f b.data.toList h):=by
 have d:b.data.toList=[]:=pt (by simpa using q);have hke:b.toList.isEmpty=true:=by simp_all
 have i:=l;obtain⟨ha,hc,rfl,-⟩:=i;go_enter (Yq.nq func73),ntmps73;go_wp2_with fail
 refine(mG A n p f w r).m ?_;rintro e w1 ⟨g,hv0,kv,ks,rfl,a⟩;have⟨⟨c0,c1,c2⟩,fz⟩:=cH a.node;go_wp2;go_ret;have hd:=se a Y _ h (bJ d l).o.2 (by simp[c]) _ Q
 simp_all
structure Rdy (A:H->Prop)(n:H)(w w3:Wj)(f:S kr->S Ver)(g:H)(hv0:Wx)(k cap:H)(ks:S (kr×gL Wu))(r:H)(c:kr)(q:gL Wu)(d:H):Prop where
 below:Below w.heap.size w w3
 node:w3.ownsRow w.heap.size 152 3 (M (J ⟨g,0,N⟩) 1 1) 1 [C (!(f []).isEmpty),hv0,M (J ⟨k,0,N⟩) (aZ ks r c q d).length cap]
 kids:w3.ownsRow w.heap.size 184 2 (M (J ⟨k,0,N⟩) (aZ ks r c q d).length cap) (aZ ks r c q d).length (aI (aZ ks r c q d))
 apart:k≠g
 PF:bX A w hv0 (f [])
 sorted:ks.Pairwise (λa b=>a.1<b.1)
 place:Place ks c r
 QR:d=if rp ks c r then 1 else 0
 child:∀c q,(c,q)∈ks->au A n w q (λk=>f (c::k))
 Ol:∀c,(∀q,(c,q) ∉ ks)->∀k,f (c::k)=[]
 OD:∀c q,(c,q)∈ks->q≠N
 this:au A n w q (λk=>f (c::k))
theorem iP(hr:r<=a.length):r<(aZ a r c q d).length:=by
 unfold aZ;rw[lP,tL,lC];omega
theorem nC(b:r<=a.length):(aZ a r c q d)[r]'(iP b)=(c,q):=by
 have e:(aZ a r c q d)[r]?=J (c,q):=by
  unfold aZ
  grind
 grind
theorem Ch{q':gL Wu}(hr:r<=a.length):(aZ a r c q d).take r++(c,q')::(aZ a r c q d).drop (r+1)=aZ a r c q' d:=by
 have b:(a.take r).length=r:=by grind
 unfold aZ;rw[tb b,show(a.take r++(c,q)::a.drop (r+d))=(a.take r++[(c,q)])++a.drop (r+d)by simp,List.drop_left' (by simp[b])]
theorem jn{q':gL Wu}:(aZ a r c q d).length=(aZ a r c q' d).length:=by
 unfold aZ;simp
theorem Rdy.cells{A:H->Prop}{n}{w b}{f:S kr->S Ver}{g}{e}{k a}{i}{r}{c:kr}{q:gL Wu}{d}(R:Rdy A n w b f g e k a i r c q d):
  b.cell? ⟨g,2,N⟩=J (M (J ⟨k,0,N⟩) (aZ i r c q d).length a)/\b.cell? ⟨k,r*2+1,N⟩=J (O q)/\b.frozen? ⟨k,r*2+1,N⟩=Z/\(aZ i r c q d).length<=256:=by
 have⟨⟨c0,c1,j⟩,fz⟩:=cH R.node;have h:=iP (c:=c) (q:=q) (d:=d) R.place.le;obtain⟨g',cap',l,-,-,m,-⟩:=(dM Q R.kids (λ_ _=>trivial)).cells (by grind);cases l;refine⟨j,?_,R.kids.frozenAt _,nA _ (jm R.sorted R.place q d R.QR)⟩;have:=(m r h).2;rw[nC R.place.le]at this;exact this
theorem Rdy.done{p}{k v}(R:Rdy A n w G f g p k v z r c q d)
  (D:Wj) (B:Below G.heap.size G D) (a:gL Wu) (F:S kr->S Ver) (P:F []=f []) (L:∀h,h≠c->(λx=>F (h::x))=λx=>f (h::x))
  (hq:au (Grow (λb=>A b/\b<w.heap.size) G) n D a (λx=>F (c::x))) (wf:Wj) (ab:wf=D.setCell ⟨k,r*2+1,N⟩ (O a)):
  Below w.heap.size w wf/\(a≠N->au (Grow A w) (n+1) wf (J ⟨g,0,N⟩) F) /\
   wf.ownsRow w.heap.size 152 3 (M (J ⟨g,0,N⟩) 1 1) 1 [C (!(f []).isEmpty),p,M (J ⟨k,0,N⟩) (aZ z r c a d).length v] /\
   wf.ownsRow w.heap.size 184 2 (M (J ⟨k,0,N⟩) (aZ z r c a d).length v) (aZ z r c a d).length (aI (aZ z r c a d)):=by
 subst ab;have T:=R.kids.lt k Q;have o:G.grownBy D none:=⟨B.os,B.tape,B.output,B.size,λi hi _=>B.block i hi⟩;have V:=(R.kids.kept o (by simp[dT])).stored (r*2+1) (O a);have n5:=(R.node.kept o (by simp[dT])).kept V.2 (xc (by simp[dT];exactλe=>R.apart e.s));rw[wi _ r c a (iP R.place.le) (by rw[nC R.place.le]),Ch R.place.le,jn (q':=a)]at V;rw[jn (q':=a)]at n5;have u:Below w.heap.size w (D.setCell ⟨k,r*2+1,N⟩ (O a)):=(R.below.t (B.m R.below.size)).setCell T.1 _;obtain⟨⟨c0,c1,c2⟩,-⟩:=cH n5;refine⟨u,λaf=>xc ⟨g,p,_,aZ z r c a d,Q,xc (R.node.lt g Q).1,by rw[P];exact c0,c1,c2,by rw[P];exact dW.Nx R.PF (kD u),?_,jm R.sorted R.place a d R.QR,?_,?_,?_⟩,n5,V.1⟩;exact dM Q V.1 (λj e=>by simp[dT]at e;subst e;exact xc T.1);intro h x hx;rcases r9 R.sorted R.place a d R.QR h x hx with⟨rfl,rfl⟩|⟨l,hm⟩;refine au.Nx (λb ad hb2=>?_) n x _ hq;rcases ad with⟨⟨hA,aa⟩,_⟩|hge;exact⟨xt ⟨hA,aa⟩,Ra (by show b≠k;omega)⟩;have:=R.below.size;exact⟨xc (by omega),Ra (by show b≠k;omega)⟩;rw[L h l];exact au.Nx (kD u) n x _ (R.child h x hm);intro h ac y;have⟨l,X⟩:=wj R.sorted a d R.QR h ac;have:=congrFun (L h l) y;rw[this];exact R.Ol h X y;intro h x hx;rcases r9 R.sorted R.place a d R.QR h x hx with⟨rfl,rfl⟩|⟨l,hm⟩;exact af;exact R.OD h x hm
theorem Made.rdy{p u}{l x}(a:Made A n w p f g l x b)(j:Below p.heap.size p u)(y:Place b c r)(o:rp b c r=Y):
  ∃k d q,x=M (J ⟨k,0,N⟩) (aZ b r c q 1).length d/\Rdy A n w u f g l k d b r c q 1:=by
 have⟨B,s⟩:=Place.mem o;have z:aZ b r c b[r].2 1=b:=by
  unfold aZ;have:(c,b[r].2)=b[r]:=by grind
  simp_all
 have h:p.grownBy u none:=⟨j.os,j.tape,j.output,j.size,λi D _=>j.block i D⟩;have n2:=a.node.kept h (by simp[dT]);have v:=a.kids;rcases v.2 with⟨_,h0⟩|⟨k,d,cur,rfl,_⟩;omega;have v:=a.kids.kept h (by simp[dT]);refine⟨k,d,b[r].2,by rw[z],a.below.t (j.m a.below.size),?_,?_,λe=>a.apart (by simp[dT,e]),a.PF,a.sorted,y,by simp[o],a.child,a.Ol,a.OD,a.child c _ (by rw[<-s];exact List.getElem_mem B)⟩
 grind
 grind
theorem bm{s}{c}{d}(h:w.ownsRow r s c v n d)(hn:0<n):∃g b,v=M (J ⟨g,0,N⟩) n b/\r<=g/\g<w.heap.size/\n<=b:=by
 rcases h.2 with⟨rfl,rfl⟩|⟨g,b,cur,rfl,hb,hg,hc,_⟩;omega
 grind
theorem aQ{b}(a:Below w.heap.size w b)(r:gL H):w.grownBy b r:=⟨a.os,a.tape,a.output,a.size,λi c _=>a.block i c⟩
theorem Made.Qm{v F y}{l D}(a:Made A n w v f g l D b)(B:Below v.heap.size v G)(L:Place b c r)(o:rp b c r=Z)
  (i:Below G.heap.size G F) (k d:H) (V:y.ownsRow w.heap.size 184 2 (M (J ⟨k,0,N⟩) (b.length+1) d) (b.length+1) (aI (aZ b r c N 0))) (q:F.grownBy y D.ownBlock)
  (u:(gI (J ⟨k,0,N⟩) (b.length+1) d).ownBlock=D.ownBlock\/∀j,(gI (J ⟨k,0,N⟩) (b.length+1) d).ownBlock=J j->F.heap.size<=j):
  (aZ b r c N 0).length=b.length+1/\Rdy A n w (y.setCell ⟨g,2,N⟩ (M (J ⟨k,0,N⟩) (b.length+1) d)) f g l k d b r c N 0:=by
 have x:(aZ b r c N 0).length=b.length+1:=by
  unfold aZ;rw[lP,tL,lC,lD];omega
 have z:=a.node.lt g Q;have p:k≠g:=by
  intro e;rcases u with h|h;exact a.apart (by rw[<-h,e];rfl);have:=h k Q;have:=B.size;have:=i.size;omega
 have P:=a.below.t (B.m a.below.size);have T:=P.t (i.m P.size);have R:=(((a.node.kept (aQ B N) (by simp[dT])).kept (aQ i N) (by simp[dT])).kept q (xc (by simp;exactλe=>a.apart e.s))).stored 2 (M (J ⟨k,0,N⟩) (b.length+1) d);refine⟨x,(T.grown q T.size (λj e=>(a.kids.lt j e).1)).setCell z.1 _,by rw[x];exact R.1,by rw[x];exact(V.kept R.2 (xc (by simp[dT];exact p))),p,a.PF,a.sorted,L,by simp[o],a.child,a.Ol,a.OD,au.nil (a.Ol c (L.O3 a.sorted o))⟩
theorem bD{k:gL H}(f:w.grownBy i k)a(c:a.block<w.heap.size)(d:J a.block≠k):i.frozen? a=w.frozen? a:=
 fB (w:=w) (f.block a.block c d)
theorem Ci n(ih:L8 n)(A:H->Prop)(p:gL Wu)(f:S kr->S Ver)(j:nF)hv h w(hN:au A (n+1) w p f)(hk:0<j.size)(hkn:j.size<n+1)(hk2:j.size<=1000)(hh:bX A w hv h)(al:h≠[]):
  Calls Vp 73 #[O p,U j,hv] w λe w'=>∃g,e=Rc (O (J ⟨g,0,N⟩))/\Below w.heap.size w w'/\au (Grow A w) (n+1) w' (J ⟨g,0,N⟩) (upd f j.data.toList h):=by
 have aa:=mG A n p f w hN;have P:=Ax j hk;have hke:j.toList.isEmpty=false:=by rw[ByteArray.toList_eq,P];rfl
 have av:=hh;obtain⟨ha,hc,rfl,-⟩:=av;have ac:=bJ P hh;have IH:=aq ih;clear P hN hh ih;go_enter (Yq.nq func73),ntmps73;go_wp2_with fail
 refine aa.m ?_;rintro e w1 ⟨g,a0,kv,l,rfl,i⟩;have⟨⟨c0,c1,c2⟩,fz⟩:=cH i.node;have D:jR (λ_=>True) w1 kv l:=dM Q i.kids (λ_ _=>trivial);have ab:=qo (λ_=>True) g kv l j[0] w1 c2 D i.sorted;clear aa c0 c1 c2 fz D;go_wp2_with fail
 refine ab.m ?_;rintro e y ⟨r,V,rfl,u⟩;clear ab
 go_upto_if 30 with fail
 go_cut [9] (λ_ wx=>∃k v q d,Rdy A n w wx f g a0 k v l r j[0] q d)
 case first=>
  cases G:rp l j[0] r with
  |true=>
   obtain⟨k,v,q,rfl,R⟩:=i.rdy u V G;have HR:=aq R;clear R i V;go_wp2
   go_meet
   case rel=>exact⟨k,v,q,1,HR.o⟩
  |false=>
   have D:=i.kids;obtain⟨X,kc,rfl,-⟩:=ao i.kids;have hle:=nA l i.sorted;have af:=ag u (cH i.node).1.2.2;have a1:=(u.frozen (p:=⟨g,2,N⟩) (i.node.lt g Q).2).t ((cH i.node).2 2);have F:g<y.heap.size:=bC y _ af;have HI:Hid (∀z:Wj,z.heap=(y.alloc (E #[I .u8 (j[0].toNat:lj),O N] 184)).heap ->
     Calls Vp 97 #[M X l.length kc,I K r,M (J ⟨y.heap.size,0,N⟩) 1 1] z (jU w.heap.size (M X l.length kc) r l.length (aI l) (I .u8 (j[0].toNat:lj)) (O N) z)):=λz T=>by
    have ap:Below y.heap.size y (y.alloc (E #[I .u8 (j[0].toNat:lj),O N] 184)):=(Q9).alloc Q0 _;have kq:=(i.kids.kept (aQ u N) (by cases h:dT (M X l.length kc)<;>simp)).alloc (E #[I .u8 (j[0].toNat:lj),O N] 184);have aj:z.ownsRow w.heap.size 184 2 (M X l.length kc) l.length (aI l):=by
     unfold World.ownsRow at kq ⊢;rw[T];exact kq
    refine HU w.heap.size _ l.length r (aI l) y.heap.size _ _ z aj (by omega) V.le 184 (by rw[T];exact RU y _) ?_ ⟨Q,Q⟩ (jT l) (by rw[T];have:=(i.below.t (u.m i.below.size)).size;have:=ap.size;omega);intro e;have:=(i.kids.lt _ e).2;have:=u.size;omega
   have HM:=eM G V i;clear G V i D;go_wp2_with fail
   go_region_with (go_at_call 97;refine(HI.o ((y.alloc (E #[I .u8 (j[0].toNat:lj),O N] 184)).drew) Q).m ?_;rintro e w3 ⟨v',rfl,ho,L,ai⟩;obtain⟨k,v,rfl,-,-,-⟩:=bm ho (Nat.succ_pos _);have k2:w3.cell? ⟨g,2,N⟩=J (M X l.length kc):=L.cell (a:=⟨g,2,N⟩) (ag ((bR _ y).alloc Q0 _) af) (λe=>HM.o.2.2.apart e.s);have kf:w3.frozen? ⟨g,2,N⟩=false:=(bD L ⟨g,2,N⟩ (lL F (by simp)) (λe=>HM.o.2.2.apart e.s)).t ((((bR _ y).alloc Q0 _).frozen (p:=⟨g,2,N⟩) F).t a1))
   all_goals
    go_wp2_with fail
    go_meet
    case rel=>
     rw[we]at ho;exact⟨k,v,N,0,(HM.o.2.2.Qm u HM.o.2.1 HM.o.1 ((bR _ y).alloc Q0 _).drew k v ho L ai).2⟩
 case rest=>
  obtain⟨k,v,q,d,R⟩:=hcut;have⟨c2,d1,fr,hl⟩:=R.cells;have hr:=iP (c:=j[0]) (q:=q) (d:=d) R.place.le;clear i V u;generalize hm:(aZ l r j[0] q d).length=m at *;have HL:=aq hm;clear hm;have HQ:Hid (∀z:Wj,z.heap=wc.heap->au (λb=>A b/\b<w.heap.size) n z q (λx=>f (j[0]::x))/\bX (λb=>A b/\b<w.heap.size) z (M ha h.length hc) h):=λz T=>
   ⟨au.Nx (λb h1 h2=>⟨⟨h1,h2⟩,by rw[T];exact R.below.block b h2⟩) n q _ R.this,dW.Nx ac.o.2 (λb h1 h2=>⟨⟨h1,h2⟩,by rw[T];exact R.below.block b h2⟩)⟩
  have ad:Hid ((j.extract 1 j.size).size<n/\(j.extract 1 j.size).size<=1000):=by
   have:(j.extract 1 j.size).size=j.size-1:=by simp
   exact⟨by omega,by omega⟩
  go_wp2_with fail
  go_region_with (go_at_call 73;refine(IH.o (λb=>A b/\b<w.heap.size) q (λx=>f (j[0]::x)) _ _ h _ ?_ ?_ ?_ ?_ al).m ?_;exact(HQ.o wc.drew Q).1;exact ad.o.1;exact ad.o.2;exact(HQ.o wc.drew Q).2;rintro e w4 ⟨g',rfl,B,a2⟩;have k2:=ag (W:=wc.drew) B c2;have kd:=ag (W:=wc.drew) B d1;have kf:=(B.frozen (p:=⟨k,r*2+1,N⟩) (bC wc _ d1)).t fr)
  all_goals
   go_wp2;go_ret;have hd:=R.done w4 ((bR _ wc).drew.t B) (J ⟨g',0,N⟩) (upd f (j[0]::(j.extract 1 j.size).data.toList) h) (jV _ _ _ _) (λc' ar=>qq _ _ _ _ _ ar) (by rw[upd_same];exact a2) _ Q;rw[ac.o.1];exact⟨g,Q,hd.1,hd.2.1 (by simp)⟩
theorem Eu:∀n,L8 n:=by
 intro n;induction n with
 |zero=>intro A p f a d h w _ e;omega
 |succ n ih=>
  intro A p f a d h w j e c i b;by_cases k:a.size=0
  exact yR n A p f a d h w j k i b;exact Ci n ih A p f a d h w j (by omega) e c i b
end
