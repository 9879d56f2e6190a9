/- A part. -/
import Derived.Test.YtenhoolepfelcaaGreatDoorQP03
import Derived.Lib.SliceRun
import Derived.Laws.AppendOwnNone
import Derived.Deep.RegionHeld3
import Derived.Lib.AppendZerosOnto
import Derived.Lib.Overlaps
import Derived.Laws.Externs
import Derived.Laws.NewBlocks
set_option maxHeartbeats 4000000
set_option maxRecDepth 100000
open Go.Value renaming ownBlock->dT,cells->ey,agg->eV,oneCell'->eW,slice->gI
open _root_ renaming Option->gL,UInt8->g6,Int->jp,Array->kr,ByteArray->lj,absurd->lk
open List renaming eq_nil_of_length_eq_zero->nF,getElem?_take->n8,mem_of_mem_drop->pt,take_left'->sq,getElem?_drop->sT,flatMap_cons->ta,length_eq_zero_iff->tb,mem_flatMap->tn,not_mem_nil->uc
open Go.Addr renaming add_lit->vf
open Or renaming inr->vx,inl->wd
open Go.Builtin renaming copy_->xb,append_->xc,zeroCells->xt,clear_->xv,firstCells->yz,append->NE,lenOf->Pi
open Go.World.grownBy renaming refl->PA
open Go.World renaming cell?->PB,ownsRow_nil->PI,grownBy_alloc->PJ,ownsRow_made->PK,frozen?->PL,shape?->PM
open Go renaming setRow_heap->PN,maxLen->PO,info_parts->PP,setRow_other->PQ,run_append_room->PR,wpList_append_own->PS,run_storeCells_at->PT,run_underlying->PU,run_append_nil->PV,growslice_fits->PW,size_zeroCells->PX,heap_alloc_new->PY
open Go.Act renaming eval->PZ,put->P0
open Go.Region renaming wanted->P9
open Nat renaming min_eq_left->Qg,min->Qh,mul_le_mul_right->Qi,zero_le->Qj,add_mul->Qk,one_mul->Ql
open Go renaming World->Wj,Value->Wx,TypeId->Ww,Addr->Wu
namespace Go.Proofs.Qw
open _root_ renaming rfl->Q
open Go.Proofs.Yq renaming prog->Vp
open _root_ renaming Nat->H,List->S
open Option renaming none->N,some->J
open Bool renaming true->Y,false->Z
open Value renaming int->I,string->U,slice->M,pointer->O,bool->C,agg->Qa,tuple->Qb
open IntKind renaming i64->K
open Obj renaming cells->E
open Ending renaming returned->Nm
open Operand renaming tmp->Qe
variable {A:H->Prop}{G i w:Wj}{j v:Wx}{d g n r:H}{c:g6}{f:S g6->S Ver}{o:Oper}{a b ks p z:S (g6×gL Wu)}{e:Exit->Act->Wj->Prop}{q:gL Wu}
open Tryz
section
open Go.RowKit
theorem Yq.Nf:(Yq.prog.info? 177).map (λi=>(i.zero,i.size,i.bytes))=J (J (Qa #[I .u8 0,O N]),2,16):=by kernel_rfl
theorem Yq.NO:(Yq.prog.info? 62).map (λi=>(i.zero,i.size,i.bytes))=J (J (Qa #[I K 0,U ⟨#[]⟩,C Z]),3,32):=by kernel_rfl
theorem cw.src{c}(h:cw A w v n c)(hl:n=0->c=[]):(v=M N 0 0/\n=0\/∃d b,v=M (J d) n b/\∀j u,c[j]?=J u->w.cell? (d.add j)=J u)\/(∃b,v=M N n b/\n≠0/\c=[]):=by
 obtain⟨a,b,rfl,h0,l⟩:=h;cases a with
 |none=>
  grind
 |some d=>
  refine wd (vx ⟨d,b,Q,λj u f=>?_⟩);have⟨g,k,hA,hg,i⟩:=l (by intro e;subst e;simp at f);cases k;rw[vf,zA,i j ((sL f).1)];exact f
theorem Bm(A:H->Prop)v n f w(h:cw A w v n f)(x:f.length=n*2)(hn:n<=1000)(G:∀u∈f,u.oneCell'=Y):
  Calls Vp 107 #[v] w λe r=>∃i,e=Nm i/\r.ownsRow w.heap.size 177 2 i n f/\Below w.heap.size w r:=by
 have⟨s,z,m,p,l⟩:=PP Yq.Nf;have q:=λw a n c t y=>Lib.run_eql_slice_nil w _ _ a n c t y (Yq.u underlying143)
 rcases h.src (λh=>by subst h;exact nF (by omega))with(⟨rfl,rfl⟩|⟨ad,cap,rfl,hc⟩)|⟨cap,rfl,hn0,rfl⟩;have B:=nF (by omega);subst B;go_enter (Yq.nq func107),ntmps107;go_wp2;go_ret;exact⟨_,rfl,PI _ _ _ _,bR _ _⟩;go_enter (Yq.nq func107),ntmps107;go_wp2_with (at_builtin;refine PS _ rfl _ _ 143 rfl w.heap.size 177 s _ 2 16 (Yq.u underlying143) z m p l rfl (by decide) _ _ _ rfl (PK w #[] 0 (lR _) (Qj _) (by simp)) ad n cap f rfl ?qc1 ?qc2 ?qc3 ?qc4 ?qc5 ?qc6 ?_)
 case qc1=>exact x
 case qc2=>
  exactλj u F=>ag ((bR _ _).alloc (lR _) _) ((aI hc).o j u F)
 case qc3=>exact G
 simp[PO];omega;omega;case qc6=>simp
 intro i w1 d b hnil;go_wp2;go_ret;exact⟨i,rfl,by simpa using d,((bR _ w).alloc (lR _) _).grown b (by simp) (by intro k D;simp[dT]at D;omega)⟩
 grind
theorem Bn(A:H->Prop)v n f w(h:cw A w v n f)(x:f.length=n*3)(hn:n<=2199023255552)(G:∀u∈f,u.oneCell'=Y):
  Calls Vp 71 #[v] w λe r=>∃i,e=Nm i/\r.ownsRow w.heap.size 62 3 i n f/\Below w.heap.size w r:=by
 have⟨s,z,m,p,l⟩:=PP Yq.NO;have q:=λw a n c t y=>Lib.run_eql_slice_nil w _ _ a n c t y (Yq.u underlying96)
 rcases h.src (λh=>by subst h;exact nF (by omega))with(⟨rfl,rfl⟩|⟨ad,cap,rfl,hc⟩)|⟨cap,rfl,hn0,rfl⟩;have B:=nF (by omega);subst B;go_enter (Yq.nq func71),ntmps71;go_wp2;go_ret;exact⟨_,rfl,PI _ _ _ _,bR _ _⟩;go_enter (Yq.nq func71),ntmps71;go_wp2_with (at_builtin;refine PS _ rfl _ _ 96 rfl w.heap.size 62 s _ 3 32 (Yq.u underlying96) z m p l rfl (by decide) _ _ _ rfl (PK w #[] 0 (lR _) (Qj _) (by simp)) ad n cap f rfl ?qc1 ?qc2 ?qc3 ?qc4 ?qc5 ?qc6 ?_)
 case qc1=>exact x
 case qc2=>
  exactλj u F=>ag ((bR _ _).alloc (lR _) _) ((aI hc).o j u F)
 case qc3=>exact G
 simp[PO];omega;omega;case qc6=>simp
 intro i w1 d b hnil;go_wp2;go_ret;exact⟨i,rfl,by simpa using d,((bR _ w).alloc (lR _) _).grown b (by simp) (by intro k D;simp[dT]at D;omega)⟩
 grind
theorem eC h:∀u∈aw h,u.oneCell'=true:=by
 intro u a;simp only[aw,tn]at a;obtain⟨v,_,a⟩:=a;simp at a;rcases a with rfl|rfl|rfl<;>rfl
theorem jw h:∀u∈aH h,u.oneCell'=true:=by
 intro u a;simp only[aH,tn]at a;obtain⟨v,_,a⟩:=a;simp at a;rcases a with rfl|rfl<;>rfl
theorem Bo(A:H->Prop)v a w(h:ju A w v a)(hn:a.length<=256):
  Calls Vp 107 #[v] w λe b=>∃c,e=Nm c/\b.ownsRow w.heap.size 177 2 c a.length (aH a)/\Below w.heap.size w b:=
 Bm A v _ _ w h (fu a) (by omega) (jw a)
theorem rr(A:H->Prop)v h w(c:bO A w v h)(d:h.length<=2199023255552):
  Calls Vp 71 #[v] w λe a=>∃b,e=Nm b/\a.ownsRow w.heap.size 62 3 b h.length (aw h)/\Below w.heap.size w a:=
 Bn A v _ _ w c (ft h) d (eC h)
section
variable {P:Program}
theorem fM(w:Wj)(m x p e:Ww)(i:TypeInfo)(g o b h:H)(a:Wu)(d k:H)(c:kr Wx)(t:Ww)(cs:S Wx)
  (n:P.underlying m=J (.slice e)) (r:P.info? e=J i)
  (q:w.heap[g]?=J (.cells c t (0,0))) (s:cs.length=Qh d b*i.size)
  (l:∀j v,cs[j]?=J v->w.cell? (a.add j)=J v) (f:o+cs.length<=c.size) (u:∀v∈cs,v.oneCell'=Y):
  (xb #[m,x] p #[.slice (J ⟨g,o,N⟩) b h,.slice (J a) d k]).run P w =
   .ok (goInt (Qh d b)) (w.setRow g (c.toList.take o++cs++c.toList.drop (o+cs.length)).toArray):=by
 simp[xb,PU n,Pi,yz,sizeOf,typeInfo,r,<-s,run_loadCells_list (P:=P) w a cs l,(PT P g o t cs 0 c w q (by simpa using f) u)]
theorem me(w:Wj)(t e l:Ww)(z:Wx)(k:P.underlying t=J (.slice e))(j:∀w,(zeroValue e).run P w=.ok z w)(h:∀v∈z.cells.toList,v.oneCell'=Y)
  (g o c:H) (a:kr Wx) (T:Ww) (m:w.heap[g]?=J (.cells a T (0,0))) (b:o+z.cells.size<=a.size):
  (xv #[t] l #[.slice (J ⟨g,o,N⟩) 1 c]).run P w=.ok (.tuple #[]) (w.setRow g (a.toList.take o++z.cells.toList++a.toList.drop (o+z.cells.size)).toArray):=by
 have d:(xt z.cells 1)=z.cells:=by
  apply Array.ext;simp[xt];intro i h f;simp[xt,Nat.mod_eq_of_lt f,f]
 simp[xv,PU k,j,d,(PT P g o T z.cells.toList 0 a w m (by simpa using b) h)]
theorem mf{f:kr Oper}{a}{b:Act->Wj->Prop}{c:Prop}
  (r:o.guard=N) (d x:Operand) (l k:Ww) (h:o.op=Op.call {callee:=Callee.builtin Builtin.copy,args:=#[d,x],argTypes:=#[l,k]})
  (v u:Wx) (m:a.eval d=v) (n:a.eval x=u)   (p:(xb #[l,k] o.type #[v,u]).run P w=.ok j i) (q:b (a.put o.dst j) i):
  if P9 o (yielded f a.tmps)=Y then Oper.wp P o a w b e else c:=by
 rw[if_pos (by simp[P9,r])];unfold Oper.wp;simp[execOp,h,resolve,invoke,builtin,m,n,p,Result.andThen];exact q
theorem eO{f:kr Oper}{a}{b:Act->Wj->Prop}{c:Prop}
  (r:o.guard=N) (d x:Operand) (l k:Ww) (h:o.op=Op.call {callee:=Callee.builtin NE,args:=#[d,x],argTypes:=#[l,k]})
  (v u:Wx) (m:a.eval d=v) (n:a.eval x=u)   (p:(xc #[l,k] o.type #[v,u]).run P w=.ok j i) (q:b (a.put o.dst j) i):
  if P9 o (yielded f a.tmps)=Y then Oper.wp P o a w b e else c:=by
 rw[if_pos (by simp[P9,r])];unfold Oper.wp;simp[execOp,h,resolve,invoke,builtin,m,n,p,Result.andThen];exact q
end
theorem fN{s}{a}{c:kr Wx}{f}(k:d<=g)(l:w.heap[g]?=J (E c s (0,0)))(m:n<=a)(j:a<=PO)
  (h:c.size=a*r) (i:c.toList.take (n*r)=f):w.ownsRow d s r (M (J ⟨g,0,N⟩) n a) n f:=by
 refine⟨?_,vx ⟨g,a,c,Q,k,l,m,j,h,i⟩⟩;rw[<-i,tL,lY,h]
 simp_all
theorem dH(w:Wj)(g:H)(cs:kr Wx):w.grownBy (w.setRow g cs) (J g):=
 ⟨Q,Q,Q,by simp,λk _ a=>PQ w g k _ (λe=>a (by rw[e]))⟩
theorem ip{r:gL H}(h:w.grownBy i r):w.grownBy i.drew r:=⟨h.os,h.tape,h.output,h.size,h.block⟩
theorem cG{b c}{r:gL H}(h:w.grownBy b r)(k:b.grownBy c r):w.grownBy c r:=
 ⟨k.os.t h.os,k.tape.t h.tape,k.output.t h.output,lT h.size k.size,λi d e=>(k.block i (lL d h.size) e).t (h.block i d e)⟩
theorem Yq.OM w:(zeroValue 177).run Vp w=.ok (Qa #[I .u8 0,O N]) w:=by simp_all
theorem Yq.OK w:(zeroValue 62).run Vp w=.ok (Qa #[I K 0,U ⟨#[]⟩,C Z]) w:=by simp_all
theorem zI{m:Type}(b c C1 a:S m)(s k i d:H)(hcl:b.length=d*s)(e:k+1<=d)(h:i<=k)(hx:b.take ((k+1)*s)=c)
  (hC1:C1=b.take (i*s)++c.drop ((i+1)*s)++b.drop (i*s+(c.drop ((i+1)*s)).length)):
  (C1.take (k*s)++a++C1.drop (k*s+s)).take (k*s)=c.take (i*s)++c.drop ((i+1)*s):=by
 have m3:(k+1)*s<=d*s:=Qi _ e;have m4:i*s<=k*s:=Qi _ h;have e1:b.take (i*s)=c.take (i*s):=by grind
 have hl:(b.take (i*s)++c.drop ((i+1)*s)).length=k*s:=by
  grind
 grind
theorem Gz n g k d i z w(V:w.ownsRow n 177 2 (M (J ⟨g,0,N⟩) (k+1) d) (k+1) z)(hi:i<=k)(hn:k<=2199023255552)(h1:∀u∈z,u.oneCell'=Y):
  Calls Vp 92 #[M (J ⟨g,0,N⟩) (k+1) d,I K i,I K ((i:jp)+1)] w λe w'=>e=Nm (M (J ⟨g,0,N⟩) k d) /\
   w'.ownsRow n 177 2 (M (J ⟨g,0,N⟩) k d) k (z.take (i*2)++z.drop ((i+1)*2))/\w.grownBy w' (J g):=by
 have⟨i0,aj,hz0,F,hz2⟩:=PP Yq.Nf;obtain⟨y,hr⟩:=V;rcases hr with⟨h0,_⟩|⟨g',cap',m,hv,af,hg,L,B,R,l⟩;cases h0;cases hv;obtain⟨a,hZ⟩:∃a:S Wx,a=(eV #[I .u8 0,O N]).cells.toList:=⟨_,Q⟩;obtain⟨f,j⟩:∃f,f=z.drop ((i+1)*2):=⟨_,Q⟩;have G:f.length=(k-i)*2:=by rw[j,lD,y];omega
 obtain⟨A,hA,ad⟩:∃A:Wu,(if d=i+1 then J (⟨g,0,N⟩:Wu)else J ⟨g,(i+1)*2,N⟩)=J A/\Hid (∀t u,f[t]?=J u->w.drew.cell? (A.add t)=J u):=by
  by_cases h:d=i+1
  refine⟨⟨g,0,N⟩,by simp[h],λt u hu=>?_⟩
  grind
  refine⟨⟨g,(i+1)*2,N⟩,by simp[h],λt u hu=>?_⟩;rw[vf,j,sT,<-l,n8]at *;have D:=hu;split at D
  show w.cell? _=_;rw[PB];simpa[hg]using D;cases D
 have ac:m.toList.length=d*2:=by rw[lY,R]
 obtain⟨C1,v⟩:∃C1,C1=m.toList.take (i*2)++f++m.toList.drop (i*2+f.length):=⟨_,Q⟩;have x:C1.length=d*2:=by rw[v];simp;omega
 obtain⟨W1,r⟩:∃W1,W1=w.drew.setRow g C1.toArray:=⟨_,Q⟩;have p:W1.heap[g]?=J (E C1.toArray 177 (0,0)):=by rw[r];exact PN w.drew g m _ _ _ hg
 have X:∀T c,(xc #[143,143] T #[M (J ⟨g,0,N⟩) i d,M (J A) (k-i) c]).run Vp w.drew=.ok (M (J ⟨g,0,N⟩) k d) W1:=λT c=>by
  have:=PR (P:=Vp) w.drew 143 T 177 i0 (Yq.u underlying143) aj g i d m hg A (k-i) c f (by rw[F];exact G) ad.o (λu hu=>h1 u (by rw[j]at hu;exact pt hu)) (by omega) (by rw[F,G,R];omega);rw[this,F,r,v,show i+(k-i)=k by omega]
 obtain⟨C2,s⟩:∃C2,C2=C1.take (k*2)++a++C1.drop (k*2+2):=⟨_,Q⟩;obtain⟨W2,q⟩:∃W2,W2=W1.setRow g C2.toArray:=⟨_,Q⟩;have hcr:∀T c,(xv #[143] T #[M (J ⟨g,k*2,N⟩) 1 c]).run Vp W1=.ok (Qb #[]) W2:=λT c=>by
  rw[q,s,hZ];exact me W1 143 177 T (eV #[I .u8 0,O N]) (Yq.u underlying143) Yq.OM (by simp[ey,eW]) g (k*2) c C1.toArray _ p (by simp[ey,x];omega)
 have aa:W2.ownsRow n 177 2 (M (J ⟨g,0,N⟩) k d) k (z.take (i*2)++z.drop ((i+1)*2)):=by
  rw[q];refine fN af (PN W1 g _ _ _ _ p) (by omega) B ?_ ?_;rw[s,hZ];simp[ey];omega;rw[s];exact zI m.toList z C1 a 2 k i d ac L hi l (by rw[v,j])
 have ai:w.grownBy W2 (J g):=by
  rw[q];refine cG (b:=W1) ?_ (dH _ _ _);rw[r];exact cG (ip (PA w _)) (dH _ _ _)
 have hb0:(0:jp)<=(i:jp)+1:=by omega
 have hic:i<=d:=by omega
 have hjc:i+1<=d:=by omega
 have hkc:=L;have hc63:d<=9223372036854775807:=by unfold PO at B;omega
 have ab:=aI X;clear y hg R l j G ac v x r p X L B s q hZ h1;go_enter (Yq.nq func92),ntmps92;go_wp2_with fail
 go_region_law (refine eO Q (Qe 22) (Qe 25) 143 143 Q (M (J ⟨g,0,N⟩) i d) (M (J A) (k-i) (d-(i+1))) (by simp[PZ,P0]) (by simp[PZ,P0]) (ab.o _ _) ?_)
 go_wp2;go_ret;exact⟨Q,aa,ai⟩
theorem GA n g k d i z w(V:w.ownsRow n 62 3 (M (J ⟨g,0,N⟩) (k+1) d) (k+1) z)(hi:i<=k)(hn:k<=2199023255552)(h1:∀u∈z,u.oneCell'=Y):
  Calls Vp 70 #[M (J ⟨g,0,N⟩) (k+1) d,I K i,I K ((i:jp)+1)] w λe w'=>e=Nm (M (J ⟨g,0,N⟩) k d) /\
   w'.ownsRow n 62 3 (M (J ⟨g,0,N⟩) k d) k (z.take (i*3)++z.drop ((i+1)*3))/\w.grownBy w' (J g):=by
 have⟨i0,aj,hz0,F,hz2⟩:=PP Yq.NO;obtain⟨y,hr⟩:=V;rcases hr with⟨h0,_⟩|⟨g',cap',m,hv,af,hg,L,B,R,l⟩;cases h0;cases hv;obtain⟨a,hZ⟩:∃a:S Wx,a=(eV #[I K 0,U ⟨#[]⟩,C Z]).cells.toList:=⟨_,Q⟩;obtain⟨f,j⟩:∃f,f=z.drop ((i+1)*3):=⟨_,Q⟩;have G:f.length=(k-i)*3:=by rw[j,lD,y];omega
 obtain⟨A,hA,ad⟩:∃A:Wu,(if d=i+1 then J (⟨g,0,N⟩:Wu)else J ⟨g,(i+1)*3,N⟩)=J A/\Hid (∀t u,f[t]?=J u->w.drew.cell? (A.add t)=J u):=by
  by_cases h:d=i+1
  refine⟨⟨g,0,N⟩,by simp[h],λt u hu=>?_⟩
  grind
  refine⟨⟨g,(i+1)*3,N⟩,by simp[h],λt u hu=>?_⟩;rw[vf,j,sT,<-l,n8]at *;have D:=hu;split at D
  show w.cell? _=_;rw[PB];simpa[hg]using D;cases D
 have ac:m.toList.length=d*3:=by rw[lY,R]
 obtain⟨C1,v⟩:∃C1,C1=m.toList.take (i*3)++f++m.toList.drop (i*3+f.length):=⟨_,Q⟩;have x:C1.length=d*3:=by rw[v];simp;omega
 obtain⟨W1,r⟩:∃W1,W1=w.drew.setRow g C1.toArray:=⟨_,Q⟩;have p:W1.heap[g]?=J (E C1.toArray 62 (0,0)):=by rw[r];exact PN w.drew g m _ _ _ hg
 have X:∀T c,(xc #[96,96] T #[M (J ⟨g,0,N⟩) i d,M (J A) (k-i) c]).run Vp w.drew=.ok (M (J ⟨g,0,N⟩) k d) W1:=λT c=>by
  have:=PR (P:=Vp) w.drew 96 T 62 i0 (Yq.u underlying96) aj g i d m hg A (k-i) c f (by rw[F];exact G) ad.o (λu hu=>h1 u (by rw[j]at hu;exact pt hu)) (by omega) (by rw[F,G,R];omega);rw[this,F,r,v,show i+(k-i)=k by omega]
 obtain⟨C2,s⟩:∃C2,C2=C1.take (k*3)++a++C1.drop (k*3+3):=⟨_,Q⟩;obtain⟨W2,q⟩:∃W2,W2=W1.setRow g C2.toArray:=⟨_,Q⟩;have hcr:∀T c,(xv #[96] T #[M (J ⟨g,k*3,N⟩) 1 c]).run Vp W1=.ok (Qb #[]) W2:=λT c=>by
  rw[q,s,hZ];exact me W1 96 62 T (eV #[I K 0,U ⟨#[]⟩,C Z]) (Yq.u underlying96) Yq.OK (by simp[ey,eW]) g (k*3) c C1.toArray _ p (by simp[ey,x];omega)
 have aa:W2.ownsRow n 62 3 (M (J ⟨g,0,N⟩) k d) k (z.take (i*3)++z.drop ((i+1)*3)):=by
  rw[q];refine fN af (PN W1 g _ _ _ _ p) (by omega) B ?_ ?_;rw[s,hZ];simp[ey];omega;rw[s];exact zI m.toList z C1 a 3 k i d ac L hi l (by rw[v,j])
 have ai:w.grownBy W2 (J g):=by
  rw[q];refine cG (b:=W1) ?_ (dH _ _ _);rw[r];exact cG (ip (PA w _)) (dH _ _ _)
 have hb0:(0:jp)<=(i:jp)+1:=by omega
 have hic:i<=d:=by omega
 have hjc:i+1<=d:=by omega
 have hkc:=L;have hc63:d<=9223372036854775807:=by unfold PO at B;omega
 have ab:=aI X;clear y hg R l j G ac v x r p X L B s q hZ h1;go_enter (Yq.nq func70),ntmps70;go_wp2_with fail
 go_region_law (refine eO Q (Qe 22) (Qe 25) 96 96 Q (M (J ⟨g,0,N⟩) i d) (M (J A) (k-i) (d-(i+1))) (by simp[PZ,P0]) (by simp[PZ,P0]) (ab.o _ _) ?_)
 go_wp2;go_ret;exact⟨Q,aa,ai⟩
def jx(c:H)(v:Wx)(i n:H)(xs:S Wx)(a b:Wx)(w:Wj)(e:Ending)(w':Wj):Prop:=
 ∃d,e=Nm d/\w'.ownsRow c 177 2 d (n+1) (xs.take (i*2)++[a,b]++xs.drop (i*2))/\w.grownBy w' v.ownBlock/\(d.ownBlock=v.ownBlock\/∀k,d.ownBlock=J k->w.heap.size<=k)
theorem eP{P:Program}w{d:kr Oper}{c}{a}{b:Exit->Act->Wj->Prop}(e:o.guard=N)(s x:Operand)t f
  (m:o.op=.call {callee:=.builtin .append,args:=#[s,x],argTypes:=#[t,f]}) (i l:Wx) (p:a.eval s=i) (q:a.eval x=l)
   {j:Wj} (n:(xc #[t,f] o.type #[i,l]).run P w=.ok v j) (h:wpList P d b c (a.put o.dst v) j):wpList P d b (o::c) a w:=
 Lib.wpList_append_run w e s x t f m i l p q v j n h
theorem JQ f v n x m a b w(e:w.ownsRow f 177 2 v n x)(hn:n<=1000)
  (hv0:w.cell? ⟨m,0,N⟩=J a) (hv1:w.cell? ⟨m,1,N⟩=J b) (h1:a.oneCell'=Y/\b.oneCell'=Y) (s:f<=w.heap.size):
  ∃z y,(∀p,(xc #[143,143] p #[v,M (J ⟨m,0,N⟩) 1 1]).run Vp w=.ok z y)/\jx f v n n x a b w (Nm z) y:=by
 have⟨B,i,l,d,o⟩:=PP Yq.Nf;have c:∀j u,[a,b][j]?=J u->w.cell? ((⟨m,0,N⟩:Wu).add j)=J u:=by
  intro j u hj;rw[vf]
  grind
 have q:∀u∈[a,b],u.oneCell'=true:=by intro u hu;simp at hu;rcases hu with rfl|rfl<;>simp[h1]
 have A:=e.1;have hx:x.take (n*2)++[a,b]++x.drop (n*2)=x++[a,b]:=by
  grind
 have V:=λp=>run_append_own (P:=Vp) w f 143 p 177 B _ 2 16 (Yq.u underlying143) i l d o Q (by decide) v n x e ⟨m,0,N⟩ 1 1 [a,b] Q c q (by simp[PO];omega) (by omega) s
 rcases e.2 with⟨rfl,rfl⟩|⟨g,t,L,rfl,hbg,hg,hnc,hcm,X,htake⟩;have T:=nF (by omega);subst T;refine⟨_,_,λp=>PV (P:=Vp) w 143 p 177 B _ (Yq.u underlying143) i l ⟨m,0,N⟩ 1 1 [a,b] (by rw[d];rfl) c (by omega) (by omega) (by rw[o];omega),_,Q,?_,?_,?_⟩;have⟨z,y,h,R,D,_⟩:=V 0;rw[PV (P:=Vp) w 143 0 177 B _ (Yq.u underlying143) i l ⟨m,0,N⟩ 1 1 [a,b] (by rw[d];rfl) c (by omega) (by omega) (by rw[o];omega)]at h
 grind
 exact cG (ip (PA w _)) (PJ _ _ _);exact vx (λk G=>by simp[dT]at G;omega);by_cases r:n+1<=t
 have F:=λp=>PR (P:=Vp) w 143 p 177 B (Yq.u underlying143) i g n t L hg ⟨m,0,N⟩ 1 1 [a,b] (by rw[d];rfl) c q r (by rw[d,X];simp;omega)
 refine⟨_,_,F,_,Q,?_,?_,?_⟩;have⟨z,y,h,R,D,_⟩:=V 0
 grind
 exact dH _ _ _;exact wd Q;have F:=λp=>run_append_grow (P:=Vp) w 143 p 177 B _ (Yq.u underlying143) i l ⟨g,0,N⟩ n t x (by rw[d];exact A) (λj u hj=>by
   have:=e.cells (g:=g) Q j u hj;exact this) ⟨m,0,N⟩ 1 1 [a,b] (by rw[d];rfl) c (by omega) (by omega) (PW (by omega) (by rw[o];omega))
 refine⟨_,_,F,_,Q,?_,?_,?_⟩;have⟨z,y,h,R,D,_⟩:=V 0;rw[F 0]at h;cases h;rw[hx];exact R;exact cG (ip (PA w _)) (PJ _ _ _);exact vx (λk G=>by simp[dT]at G;omega)
theorem GB(d:H)(v:Wx)(n:H)(p:S Wx)(k:H)(a b:Wx)(w:Wj)(e:w.ownsRow d 177 2 v n p)(u:n<=1000)
  (l:w.cell? ⟨k,0,N⟩=J a) (m:w.cell? ⟨k,1,N⟩=J b) (y:a.oneCell'=Y/\b.oneCell'=Y) (f:d<=w.heap.size):
  Calls Vp 93 #[v,I K n,M (J ⟨k,0,N⟩) 1 1] w (jx d v n n p a b w):=by
 have⟨v',w1,t,s⟩:=JQ d v n p k a b w e u l m y f;obtain⟨r,c,x,j,h⟩:∃r c,v=M r n c/\n<=c/\c<=9223372036854775807:=by
  rcases e.2 with⟨rfl,rfl⟩|⟨g,c,cur,rfl,hbg,hg,j,h,hcs,htake⟩
  grind
  exact⟨_,c,Q,j,by unfold PO at h;omega⟩
 subst x;have HP:=aI s;have i:=aI t;by_cases q:c=n
 subst q;go_enter (Yq.nq func93),ntmps93;go_wp2_with (at_builtin;refine eP _ Q _ _ 143 143 Q _ _ Q Q (i.o _) ?_)
 go_ret;exact HP.o;go_enter (Yq.nq func93),ntmps93;go_wp2_with (at_builtin;refine eP _ Q _ _ 143 143 Q _ _ Q Q (i.o _) ?_)
 go_ret;exact HP.o
theorem GC g b(a i:kr Wx)h o j k l f w(c:b≠g)(m:w.heap[g]?=J (E a 177 (0,0)))(n:a.size≠0)(d:w.heap[b]?=J (E i h (0,0))):
  (callFunc 111 #[M (J ⟨b,0,N⟩) j k,M (J ⟨g,o,N⟩) l f]).run Vp w=.ok (.value (C Z)) w:=by
 rw[run_callFunc_extern (Yq.nq func111) (by kernel_rfl) (by kernel_rfl) (by kernel_rfl) (e:=Extern.SlicesOverlaps.overlaps #[143,143] #[4]) (by kernel_rfl),
  Lib.run_overlaps_apart w 143 4 177 (Yq.u underlying143) 2 (λw=>Yq.s (sizeOf177 w)) ⟨b,0,N⟩ ⟨g,o,N⟩ j k l f c h 177 i.size a.size (by simp[PM,d]) (by simp[PM,m]) n (by simp[PL,d]) (by simp[PL,d])]
 rfl
theorem GD{l:Type}(c d C1 C2:S l)(n i e:H)(a b:l)(j:c.length=e*2)(hk:n+1<=e)(hi:i<=n)(hx:c.take (n*2)=d)
  (k:C1=c.take ((i+1)*2)++d.drop (i*2)++c.drop ((i+1)*2+(d.drop (i*2)).length)) (f:C2=C1.take (i*2)++[a,b]++C1.drop (i*2+2)):
  C2.length=e*2/\C2.take ((n+1)*2)=d.take (i*2)++[a,b]++d.drop (i*2):=by
 have h:d.length=n*2:=by grind
 have hdl:(d.drop (i*2)).length=(n-i)*2:=by grind
 have e1:c.take (i*2)=d.take (i*2):=by grind
 have hA:(c.take ((i+1)*2)).length=(i+1)*2:=by rw[tL,j];omega
 have hC1l:C1.length=e*2:=by rw[k];simp;omega
 have o:C1.take (i*2)=d.take (i*2):=by
  grind
 have m:C1.drop (i*2+2)=d.drop (i*2)++c.drop ((i+1)*2+(d.drop (i*2)).length):=by
  grind
 have hil:(d.take (i*2)).length=i*2:=by rw[tL,h];omega
 refine⟨?_,?_⟩
 grind
 rw[f,o,m,<-pA];exact sq (by simp;omega)
theorem Bp k g n c i xs q a b w(aa:w.ownsRow k 177 2 (M (J ⟨g,0,N⟩) n c) n xs)(hn:n<=1000)(hi:i<n)(l:n+1<=c)
  (tv:Ww) (s:w.heap[q]?=J (E #[a,b] tv (0,0))) (ab:q≠g) (h1:a.oneCell'=Y/\b.oneCell'=Y) (ad:∀u∈xs,u.oneCell'=Y):
  Calls Vp 93 #[M (J ⟨g,0,N⟩) n c,I K i,M (J ⟨q,0,N⟩) 1 1] w (jx k (M (J ⟨g,0,N⟩) n c) i n xs a b w):=by
 have⟨i0,af,hz0,ac,hz2⟩:=PP Yq.Nf;obtain⟨B,hr⟩:=aa;rcases hr with⟨h0,_⟩|⟨g',cap',e,al,ap,hg,ar,G,T,f⟩;cases h0;cases al;have X:e.toList.length=c*2:=by rw[lY,T]
 obtain⟨cs,d⟩:∃cs,cs=xs.drop (i*2):=⟨_,Q⟩;have r:cs.length=(n-i)*2:=by rw[d,lD,B];omega
 obtain⟨C1,t⟩:∃C1,C1=e.toList.take ((i+1)*2)++cs++e.toList.drop ((i+1)*2+cs.length):=⟨_,Q⟩;obtain⟨C2,R⟩:∃C2,C2=C1.take (i*2)++[a,b]++C1.drop (i*2+2):=⟨_,Q⟩;have⟨z,F⟩:=GD e.toList xs C1 C2 n i c a b X l (by omega) f (by rw[t,d]) R;have A:C1.length=c*2:=by rw[t];simp only[lP,tL,lD,X,r];omega
 obtain⟨W1,h⟩:∃W1,W1=w.drew.setRow g C1.toArray:=⟨_,Q⟩;obtain⟨W2,p⟩:∃W2,W2=W1.setRow g C2.toArray:=⟨_,Q⟩;have m:W1.heap[g]?=J (E C1.toArray 177 (0,0)):=by rw[h];exact PN w.drew g e _ _ _ hg
 have aj:∀lb cb,(callFunc 111 #[M (J ⟨q,0,N⟩) 1 1,M (J ⟨g,(i+1)*2,N⟩) lb cb]).run Vp w=.ok (.value (C Z)) w:=λlb cb=>
  GC g q e _ tv ((i+1)*2) 1 1 lb cb w ab hg (by omega) s
 have y:∀V L sc,(xb #[143,143] V #[M (J ⟨g,(i+1)*2,N⟩) (n-i) L,M (J ⟨g,i*2,N⟩) (n+1-i) sc]).run Vp w.drew=.ok (goInt ((n-i:H):jp)) W1:=λV L sc=>by
  have hm:Qh (n+1-i) (n-i)=n-i:=Nat.min_eq_right (by omega);rw[fM (P:=Vp) w.drew 143 143 V 177 i0 g ((i+1)*2) (n-i) L ⟨g,i*2,N⟩ (n+1-i) sc e 177 cs (Yq.u underlying143) af hg (by rw[hm,ac,r])
   (λj v hj=>by
    rw[vf];rw[d,sT,<-f,n8]at hj;split at hj
    show w.cell? _=_;rw[PB];simpa[hg]using hj;cases hj)
   (by rw[r,T];omega) (λv s=>ad v (by rw[d]at s;exact pt s)),h,t,hm]
 have x:∀V L,(xb #[143,143] V #[M (J ⟨g,i*2,N⟩) (n+1-i) L,M (J ⟨q,0,N⟩) 1 1]).run Vp W1=.ok (goInt 1) W2:=λV L=>by
  have hm:Qh 1 (n+1-i)=1:=Qg (by omega);have ai:W1.heap[q]?=J (E #[a,b] tv (0,0)):=by rw[h,PQ w.drew g q _ ab];exact s
  rw[fM (P:=Vp) W1 143 143 V 177 i0 g (i*2) (n+1-i) L ⟨q,0,N⟩ 1 1 C1.toArray 177 [a,b] (Yq.u underlying143) af m (by rw[hm,ac];rfl)
   (λj v hj=>by
    rw[vf,PB];simpa[ai]using hj)
   (by simp[A];omega) (λv s=>by simp at s;rcases s with rfl|rfl<;>simp[h1]),p,R,hm]
  rfl
 have D:jx k (M (J ⟨g,0,N⟩) n c) i n xs a b w (Nm (M (J ⟨g,0,N⟩) (n+1) c)) W2:=by
  refine⟨_,Q,?_,?_,wd Q⟩;rw[p];exact fN ap (PN W1 g _ _ _ _ m) l G (by simp[z]) (by simpa using F);rw[p];refine cG (b:=W1) ?_ (dH _ _ _);rw[h];exact cG (ip (PA w _)) (dH _ _ _)
 have HP:=aI D;have h63:c<=9223372036854775807:=by unfold PO at G;omega
 have hz2':¬((i:jp)=(n:jp)):=by omega
 have hc1:¬c=i:=by omega
 have hc2:¬c=i+1:=by omega
 have H1:=aI y;have H2:=aI x;have hw1:IntKind.i64.wrap ((i:jp)+1)=(i:jp)+1:=by rw[IntKind.wrap_i64];omega
 have hb0:(0:jp)<=(i:jp)+1:=by omega
 have htn:((i:jp)+1).toNat=i+1:=by omega
 have hb3:(i:jp)<=(n:jp)+1:=by omega
 have hb4:(i:jp)<=(n:jp):=by omega
 have hin:i<=n:=by omega
 clear B hg T f X d r t R z F A h p m y x D s h1 ad ar G;go_enter (Yq.nq func93),ntmps93;go_wp2_with (simp only[aj])
 go_region_law (refine mf Q _ _ 143 143 Q (M (J ⟨g,(i+1)*2,N⟩) (n-i) (c-(i+1))) (M (J ⟨g,i*2,N⟩) (n+1-i) (c-i)) (by simp[PZ,P0]) (by simp[PZ,P0]) (H1.o _ _ _) ?_)
 have h2:=H2.o;go_wp2;go_ret;exact HP.o
theorem Dz r g n c i q vb a b w(a5:w.ownsRow r 177 2 (M (J ⟨g,0,N⟩) n c) n q)(hn:n<=1000)(hi:i<n)(hroom:c<n+1)
  (tv:Ww) (R:w.heap[vb]?=J (E #[a,b] tv (0,0))) (h1:a.oneCell'=Y/\b.oneCell'=Y) (a7:∀u∈q,u.oneCell'=Y) (a0:r<=w.heap.size):
  Calls Vp 93 #[M (J ⟨g,0,N⟩) n c,I K i,M (J ⟨vb,0,N⟩) 1 1] w (jx r (M (J ⟨g,0,N⟩) n c) i n q a b w):=by
 have⟨i0,av,be,a1,a4⟩:=PP Yq.Nf;obtain⟨m,hr⟩:=a5;rcases hr with⟨h0,_⟩|⟨g',cap',cur,bi,hbg,hg,bb,a8,bl,z⟩
 .cases h0
 cases bi;have a9:c=n:=by omega
 subst a9;have bd:g<w.heap.size:=(eS hg).1;have p:∀j u,q[j]?=J u->w.cell? ⟨g,j,N⟩=J u:=λj u s=>by
  rw[<-z,n8]at s;split at s
  .rw [PB];simpa[hg]using s
  .cases s
 have aj:(yz i0.size i (M (J ⟨g,0,N⟩) i c)).run Vp w.drew=.ok (q.take (i*2)).toArray w.drew:=by
  rw[a1];exact run_firstCells_some w.drew 2 i ⟨g,0,N⟩ i c (q.take (i*2)) (by rw[tL,m];omega) (λj v s=>by
   rw[vf,zA];rw[n8]at s;split at s
   .exact p j v s
   .cases s)
 have a3:(c:jp)+1-(i:jp)=((c+1-i:H):jp):=by omega
 have a2:i+(c+1-i)=c+1:=by omega
 obtain⟨G,hG⟩:∃G,G=grownCap w (c+1) c 177:=⟨_,Q⟩;obtain⟨Z1,ar⟩:∃Z1,Z1=(xt (eV #[I .u8 0,O N]).cells (c+1-i)):=⟨_,Q⟩;obtain⟨Z2,ap⟩:∃Z2,Z2=(xt (eV #[I .u8 0,O N]).cells (G-(c+1))):=⟨_,Q⟩;have af:Z1.size=(c+1-i)*2:=by rw[ar,PX];rfl
 have ab:Z2.size=(G-(c+1))*2:=by rw[ap,PX];rfl
 obtain⟨ROW,x⟩:∃ROW:kr Wx,ROW=(q.take (i*2)).toArray++Z1++Z2:=⟨_,Q⟩;have bk:c+1<=G:=by rw[hG];exact grownCap_ge w _ _ _
 have D:G<=PO:=by rw[hG];exact grownCap_le_maxLen w (c+1) c 177 (by simp only[PO];omega)
 have al:ROW.size=G*2:=by
  rw[x];simp only[Array.size_append,List.size_toArray,tL,m,af,ab];omega
 obtain⟨W0,l⟩:∃W0,W0=w.drew.alloc (E ROW 177):=⟨_,Q⟩;have a6:∀F,(xc #[143,3] F #[M (J ⟨g,0,N⟩) i c,I K ((c:jp)+1-(i:jp))]).run Vp w =
   .ok (M (J ⟨w.heap.size,0,N⟩) (c+1) G) W0:=λF=>by
  have h:=Lib.run_append_grow_zeros (P:=Vp) w 143 3 F 177 i0 _ K K (Yq.u underlying143) (Yq.u underlying3) av be (J ⟨g,0,N⟩) i c (q.take (i*2)) aj (c+1-i) (by omega) (by omega) (by omega) (by omega) (by rw[a4];omega) (by rw[a4,a2];exact PW (by omega) (by omega));rw[a2]at h;rw[a3,h,l,x,ar,ap,hG]
 have y:W0.heap[w.heap.size]?=J (E ROW 177 (0,0)):=by rw[l];exact PY w.drew _
 obtain⟨C1,X⟩:∃C1,C1=ROW.toList.take (i*2)++[a,b]++ROW.toList.drop (i*2+2):=⟨_,Q⟩;have B:C1.length=G*2:=by rw[X];simp only[lP,tL,lD,lY,al,lC,lN];omega
 obtain⟨cs,d⟩:∃cs,cs=q.drop (i*2):=⟨_,Q⟩;have L:cs.length=(c-i)*2:=by rw[d,lD,m];omega
 obtain⟨C2,T⟩:∃C2,C2=C1.take ((i+1)*2)++cs++C1.drop ((i+1)*2+cs.length):=⟨_,Q⟩;have ai:C2.length=G*2:=by rw[T];simp only[lP,tL,lD,B,L];omega
 have V:(q.take (i*2)).length=i*2:=by rw[tL,m];omega
 have ad:C2.take ((c+1)*2)=q.take (i*2)++[a,b]++q.drop (i*2):=by
  have e0:ROW.toList.take (i*2)=q.take (i*2):=by
   rw[x];simp only[Array.toList_append,pA];exact sq V
  have e1:C1.take ((i+1)*2)=q.take (i*2)++[a,b]:=by
   rw[X,e0];exact sq (by simp only[lP,V,lC,lN];omega)
  rw[T,e1,d];exact sq (by rw[<-d];simp only[lP,V,L,lC,lN];omega)
 obtain⟨W1,e⟩:∃W1,W1=W0.setRow w.heap.size C1.toArray:=⟨_,Q⟩;have A:W1.heap[w.heap.size]?=J (E C1.toArray 177 (0,0)):=by rw[e];exact PN W0 _ _ _ _ _ y
 obtain⟨W2,f⟩:∃W2,W2=W1.drew.setRow w.heap.size C2.toArray:=⟨_,Q⟩;have t:∀k,k<w.heap.size->W0.heap[k]?=w.heap[k]?:=λk hk=>by rw[l];exact bA w.drew _ k hk
 have hcp1:∀F dc,(xb #[143,143] F #[M (J ⟨w.heap.size,i*2,N⟩) (c+1-i) dc,M (J ⟨vb,0,N⟩) 1 1]).run Vp W0=.ok (goInt 1) W1:=λF dc=>by
  have hm:Qh 1 (c+1-i)=1:=Qg (by omega);rw[fM (P:=Vp) W0 143 143 F 177 i0 w.heap.size (i*2) (c+1-i) dc ⟨vb,0,N⟩ 1 1 ROW 177 [a,b] (Yq.u underlying143) av y (by rw[hm,a1];rfl)
   (λj v s=>by
    have:=t vb ((eS R).1);rw[vf,PB];simpa[this,R]using s)
   (by rw[al];simp;omega) (λv R=>by simp at R;rcases R with rfl|rfl<;>simp[h1]),e,X,hm]
  rfl
 have aa:∀F dc sc,(xb #[143,143] F #[M (J ⟨w.heap.size,(i+1)*2,N⟩) (c-i) dc,M (J ⟨g,i*2,N⟩) (c-i) sc]).run Vp W1.drew=.ok (goInt ((c-i:H):jp)) W2:=λF dc sc=>by
  have hm:Qh (c-i) (c-i)=c-i:=Nat.min_self _;rw[fM (P:=Vp) W1.drew 143 143 F 177 i0 w.heap.size ((i+1)*2) (c-i) dc ⟨g,i*2,N⟩ (c-i) sc C1.toArray 177 cs (Yq.u underlying143) av A (by rw[hm,a1,L])
   (λj v s=>by
    rw[vf];rw[d,sT]at s;show W1.cell? _=_;rw[cB (w:=w) (w':=W1) (a:=⟨g,i*2+j,N⟩) (by rw[e,PQ W0 _ g _ (by omega)];exact t g bd)];exact p _ v s)
   (by rw[L];simp[B];omega) (λv R=>a7 v (by rw[d]at R;exact pt R)),f,T,hm]
 have ac:jx r (M (J ⟨g,0,N⟩) c c) i c q a b w (Nm (M (J ⟨w.heap.size,0,N⟩) (c+1) G)) W2:=by
  refine⟨_,Q,?_,?_,vx (λk hk=>by simp[dT]at hk;omega)⟩
  .rw [f];exact fN a0 (PN W1.drew _ _ _ _ _ A) bk D (by simp[ai]) (by simpa using ad)
  .refine ⟨by rw[f,e,l];rfl,by rw[f,e,l];rfl,by rw[f,e,l];rfl,by rw[f,e];simpa using(by rw[l];simp),λk hk _=>?_⟩;rw[f,PQ _ _ k _ (by omega)];show W1.heap[k]?=_;rw[e,PQ _ _ k _ (by omega)];exact t k hk
 have HP:=aI ac;have hz2':¬((i:jp)=(c:jp)):=by omega
 have hc1:¬c=i:=by omega
 have hc2:¬G=i:=by omega
 have hc3:¬G=i+1:=by omega
 have hG63':G<=9223372036854775807:=by unfold PO at D;omega
 have H2:=aI aa;have HR:=aI a6;have hw1:IntKind.i64.wrap ((i:jp)+1)=(i:jp)+1:=by rw[IntKind.wrap_i64];omega
 have hb0:(0:jp)<=(i:jp)+1:=by omega
 have htn:((i:jp)+1).toNat=i+1:=by omega
 have hb3:(i:jp)<=(c:jp)+1:=by omega
 have hb4:(i:jp)<=(c:jp):=by omega
 have hin:i<=c:=by omega
 clear m hg bl z d L X T ai ad B l e f y A aa ac R h1 a7 bb a8 aj a3 a2 hG ar ap af ab x al V t p a6 D;go_enter (Yq.nq func93),ntmps93;go_wp2_with (at_builtin;refine eP _ Q _ _ 143 3 Q _ _ Q Q (HR.o _) ?_)
 go_region_law (refine mf Q _ _ 143 143 Q (M (J ⟨w.heap.size,(i+1)*2,N⟩) (c-i) (G-(i+1))) (M (J ⟨g,i*2,N⟩) (c-i) (c-i)) (by simp[PZ,P0]) (by simp[PZ,P0]) (H2.o _ _ _) ?_)
 go_wp2;go_ret;exact HP.o
theorem GE(c:H)(v:Wx)(n i:H)(l:S Wx)(k:H)(a b:Wx)(w:Wj)(d:w.ownsRow c 177 2 v n l)(t:n<=1000)(hi:i<=n)
  (p:Ww) (o:w.heap[k]?=J (E #[a,b] p (0,0))) (r:v.ownBlock≠J k) (s:a.oneCell'=Y/\b.oneCell'=Y) (m:∀u∈l,u.oneCell'=Y) (f:c<=w.heap.size):
  Calls Vp 93 #[v,I K i,M (J ⟨k,0,N⟩) 1 1] w (jx c v i n l a b w):=by
 by_cases q:i=n
 subst q;exact GB c v i l k a b w d t (by simp[PB,o]) (by simp[PB,o]) s f;rcases d.2 with⟨rfl,rfl⟩|⟨g,h,cur,rfl,hbg,hg,hnc,hcm,hcs,htake⟩;omega;by_cases j:n+1<=h
 exact Bp c g n h i l k a b w d t (by omega) j p o (λe=>r (by simp[dT,e])) s m;exact Dz c g n h i l k a b w d t (by omega) (by omega) p o s m f
theorem az{s}{f}(h:w.ownsRow d s r v n f):∃a b,v=M a n b/\(a=N->b=0):=by
 rcases h.2 with⟨rfl,rfl⟩|⟨g,b,cur,rfl,_⟩
 grind
 grind
structure Made (A:H->Prop)(n:H)(w w':Wj)(f:S g6->S Ver)(g:H)(hv kv:Wx)(ks:S (g6×gL Wu)):Prop where
 below:Below w.heap.size w w'
 node:w'.ownsRow w.heap.size 145 3 (M (J ⟨g,0,N⟩) 1 1) 1 [C (!(f []).isEmpty),hv,kv]
 kids:w'.ownsRow w.heap.size 177 2 kv ks.length (aH ks)
 apart:kv.ownBlock≠J g
 OB:bO A w hv (f [])
 sorted:ks.Pairwise (λa b=>a.1<b.1)
 child:∀c q,(c,q)∈ks->ao A n w q (λk=>f (c::k))
 Nl:∀c,(∀q,(c,q) ∉ ks)->∀k,f (c::k)=[]
 NH:∀c q,(c,q)∈ks->q≠N
theorem DA w:Calls Vp 89 #[O N] w λe a=>e=Nm (O (J ⟨w.heap.size,0,N⟩))/\a=w.alloc (E #[C Z,M N 0 0,M N 0 0] 145):=by
 go_enter (Yq.nq func89),ntmps89;go_wp2;go_ret
 simp_all
theorem Bq(A:H->Prop)g a(x:gL Wu)u y(k:gL Wu)r p f w
  (L:w.cell? ⟨g,0,N⟩=J (C a)) (P:w.cell? ⟨g,1,N⟩=J (M x u y)) (D:w.cell? ⟨g,2,N⟩=J (M k r p)) (B:ju A w (M k r p) f) (F:f.length<=256):
  Calls Vp 89 #[O (J ⟨g,0,N⟩)] w λe c=>∃l n z q,e=Nm (O (J ⟨l.heap.size,0,N⟩))/\l.ownsRow w.heap.size 177 2 (M n z q) f.length (aH f)/\Below w.heap.size w l /\
   c=l.alloc (E #[C a,M x u y,M n z q] 145):=by
 have j:∀h:Wj,h.heap=w.heap->Calls Vp 107 #[M k r p] h λe c=>∃s,e=Nm s/\c.ownsRow h.heap.size 177 2 s f.length (aH f)/\Below h.heap.size h c:=λh G=>
  Bo A _ f h (B.Mr (λb i _=>⟨i,by rw[G]⟩)) F
 have v:=aI j;clear j B;go_enter (Yq.nq func89),ntmps89;go_wp2_with fail
 go_region_held3 (λc=>c.cell? ⟨g,0,N⟩=J (C a)/\c.cell? ⟨g,1,N⟩=J (M x u y)/\c.cell? ⟨g,2,N⟩=J (M k r p)) (go_keep)
  (first|(go_at_call 107;refine(v.o _ ?_).m ?_;rfl;rintro e c ⟨s,rfl,d,i⟩;obtain⟨n,q,rfl,-⟩:=az d;have k0:=ag (W:=w.drew) i L;have k1:=ag (W:=w.drew) i P;have k2:=ag (W:=w.drew) i D))
 go_wp2;go_ret;exact⟨c,n,_,q,Q,d,(bR _ w).drew.t i,Q⟩
theorem vk(w:Wj)(a:H)(x y z:Wx)(b:a<=w.heap.size):(w.alloc (E #[x,y,z] 145)).ownsRow a 145 3 (M (J ⟨w.heap.size,0,N⟩) 1 1) 1 [x,y,z]:=
 World.ownsRow_lit w #[x,y,z] 1 b (by simp only[PO];omega) Q
theorem mg(A:H->Prop)n(p:gL Wu)(f:S g6->S Ver)w(h:ao A (n+1) w p f):
  Calls Vp 89 #[O p] w λe l=>∃g z y i,e=Nm (O (J ⟨g,0,N⟩))/\Made A n w l f g z y i:=by
 rcases h with⟨rfl,h⟩|⟨g,z,y,i,D,hA,P,T,F,v,j,x,o,b⟩;refine(DA w).m ?_;rintro e l ⟨rfl,rfl⟩;refine⟨w.heap.size,M N 0 0,M N 0 0,[],rfl,(bR _ _).alloc (lR _) _,?_,PI _ _ _ _,by simp[dT],by rw[h];exact oF A w,List.Pairwise.nil,λc q s=>lk s uc,λc _ k=>h _,λc q s=>lk s uc⟩;rw[h];exact vk w _ _ _ _ (lR _);cases D;have t:=v;have d:=j;obtain⟨L,R,rfl,-⟩:=t;obtain⟨B,G,rfl,-⟩:=d;refine(Bq A g _ L _ R B _ G i w P T F j (m0 i x)).m ?_;rintro e l ⟨u,va,vl,vc,rfl,a,r,rfl⟩;refine⟨u.heap.size,_,_,i,Q,r.alloc r.size _,vk u _ _ _ _ r.size,a.alloc _,?_,v,x,o,b.1,b.2⟩;intro e;have:=(a.lt _ e).2;omega
def N5(a:Bool)(b g:H):gL Wu:=if a=Z/\b=0 then N else J ⟨g,0,N⟩
theorem pN g a(f:gL Wu)b d w(hkl:b<=1000)
  (c0:w.cell? ⟨g,0,N⟩=J (C a)) (c2:w.cell? ⟨g,2,N⟩=J (M f b d)):
  Calls Vp 90 #[O (J ⟨g,0,N⟩)] w λe h=>e=Nm (O (N5 a b g))/\h=w:=by
 cases a with
 |true=>
  go_enter (Yq.nq func90),ntmps90;go_wp2;go_ret;exact⟨by simp[N5],Q⟩
 |false=>
  by_cases c:b=0
  subst c;go_enter (Yq.nq func90),ntmps90;go_wp2;go_ret;exact⟨by simp[N5],Q⟩;have h0':((b:jp)==0)=false:=by simp;omega
  go_enter (Yq.nq func90),ntmps90;go_wp2;go_ret;exact⟨by simp[N5,c],Q⟩
theorem iq{c:Type}(m:H)(g:c->S Wx)(b:∀a,(g a).length=m)(l:S c)(i:H):(l.flatMap g).take (i*m)=(l.take i).flatMap g:=by
 induction l generalizing i with
 |nil=>simp
 |cons a l ih=>
  cases i with
  |zero=>simp
  |succ i=>
   rw[ta,List.take_succ_cons,ta,List.take_append,b];have e:(i+1)*m-m=i*m:=by grind
   rw[e,ih,tO (by rw[b,Qk,Ql];omega)]
theorem ir{c:Type}(m:H)(g:c->S Wx)(b:∀a,(g a).length=m)(l:S c)(i:H):(l.flatMap g).drop (i*m)=(l.drop i).flatMap g:=by
 induction l generalizing i with
 |nil=>simp
 |cons a l ih=>
  cases i with
  |zero=>simp
  |succ i=>
   rw[ta,List.drop_succ_cons,List.drop_append,b];have e:(i+1)*m-m=i*m:=by grind
   rw[e,ih,List.drop_eq_nil_of_le (by rw[b,Qk,Ql];omega),List.nil_append]
theorem vo a r(c:g6)(q:gL Wu):
  (aH a).take (r*2)++[I .u8 (c.toNat:jp),O q]++(aH a).drop (r*2)=aH (a.take r++(c,q)::a.drop r):=by
 unfold aH;rw[iq 2 _ (λ_=>Q),ir 2 _ (λ_=>Q)];simp
theorem vp a r:(aH a).take (r*2)++(aH a).drop ((r+1)*2)=aH (a.take r++a.drop (r+1)):=by
 unfold aH;rw[iq 2 _ (λ_=>Q),ir 2 _ (λ_=>Q)];simp
theorem vq h r:(aw h).take (r*3)++(aw h).drop ((r+1)*3)=aw (h.take r++h.drop (r+1)):=by
 unfold aw;rw[iq 3 _ (λ_=>Q),ir 3 _ (λ_=>Q)];simp
theorem vr(a:S (g6×gL Wu))(r:H)(c:g6)(q:gL Wu)(hr:r<a.length)(hc:a[r].1=c):(aH a).set (r*2+1) (O q)=aH (a.take r++(c,q)::a.drop (r+1)):=by
 have e1:a=a.take r++a[r]::a.drop (r+1):=by simp_all
 have hl:(aH (a.take r)).length=r*2:=by rw[fu,tL,Qg (by omega)]
 have e2:aH a=aH (a.take r)++(I .u8 (c.toNat:jp) :: O a[r].2::aH (a.drop (r+1))):=by
  have e4:∀ (A B:S (g6×gL Wu)) (x:g6×gL Wu),aH (A++x::B)=aH A++(I .u8 (x.1.toNat:jp) :: O x.2::aH B):=λA B x=>by simp[aH]
  grind
 have e3:aH (a.take r++(c,q)::a.drop (r+1))=aH (a.take r)++(I .u8 (c.toNat:jp) :: O q::aH (a.drop (r+1))):=by simp[aH]
 have:r*2+1-r*2=1:=by omega
 grind
def aT(ks:S (g6×gL Wu))(r:H)(c:g6)(q:gL Wu)(d:H):S (g6×gL Wu):=ks.take r++(c,q)::ks.drop (r+d)
theorem iR{f}(k:f.Pairwise (λa b=>a.1<b.1))(i:Place f c r)(q:gL Wu)d(n:d=if qz f c r then 1 else 0):(aT f r c q d).Pairwise (λa b=>a.1<b.1):=by
 unfold aT;rw[List.pairwise_append];have hlo:∀x∈f.take r,x.1<c:=by
  intro x m;have⟨j,l,e⟩:=gM m;rw[tL]at l;rw[List.getElem_take]at e;rw[<-e];exact i.lo j (by omega) (by omega)
 have hhi:∀x∈f.drop (r+d),c<x.1:=by
  intro x m;have⟨j,l,e⟩:=gM m;rw[lD]at l;rw[List.getElem_drop]at e;have h1:=i.hi (r+d+j) (by omega) (by omega);by_cases hne:c=x.1
  exfalso;cases h:qz f c r with
  |true=>
   rw[h]at n;have⟨hr,hrc⟩:=Place.mem h;have h2:=kZ k r (r+d+j) (by simp at n;omega) (by omega)
   grind
  |false=>
   have:=i.N6 k h x.2
   grind
  grind
 refine⟨k.sublist (List.take_sublist _ _),?_,?_⟩;rw[List.pairwise_cons]
 grind
 grind
theorem ye{e:S (g6×gL Wu)}(l:e.Pairwise (λa b=>a.1<b.1)){q':gL Wu}(m:(c,q')∈e)(n:(c,q)∈e):q'=q:=by
 have⟨i,r,k⟩:=gM m;have⟨j,o,f⟩:=gM n;by_cases d:i=j
 grind
 rcases Nat.lt_or_gt_of_ne d with h|h;have:=kZ l i j h o;rw[k,f]at this;simp at this;have:=kZ l j i h r;rw[k,f]at this;simp at this
theorem ru{e}(l:e.Pairwise (λa b=>a.1<b.1))(k:Place e c r)(q:gL Wu)d(j:d=if qz e c r then 1 else 0)(f:g6)(x:gL Wu)
  (h:(f,x)∈aT e r c q d):(f=c/\x=q)\/(f≠c/\(f,x)∈e):=by
 by_cases i:f=c
 subst i;exact wd ⟨Q,ye (iR l k q d j) h (by unfold aT;simp)⟩;refine vx ⟨i,?_⟩;unfold aT at h
 grind
theorem vt{f}(_hs:f.Pairwise (λa b=>a.1<b.1))(q:gL Wu)d(hd:d=if qz f c r then 1 else 0)(h:g6)
  (j:∀x,(h,x) ∉ aT f r c q d):h≠c/\∀x,(h,x) ∉ f:=by
 have k:h≠c:=λe=>j q (by subst e;unfold aT;simp)
 refine⟨k,λx l=>j x ?_⟩;unfold aT;cases i:qz f c r with
 |false=>
  have:d=0:=by grind
  subst this;rw[<-List.take_append_drop r f,List.mem_append]at l
  grind
 |true=>
  have:d=1:=by grind
  have⟨hr,hrc⟩:=Place.mem i;have e1:f=f.take r++f[r]::f.drop (r+1):=by simp_all
  grind
def upd(f:S g6->S Ver)(key:S g6)(h:S Ver):S g6->S Ver:=λk=>if k=key then h else f k
theorem zJ(a:lj)(h:0<a.size):a.data.toList=a[0]::(a.extract 1 a.size).data.toList:=by
 have e:(a.extract 1 a.size).data.toList=a.data.toList.drop 1:=by
  simp;exact tO (by simp)
 rw[e];have b:0<a.data.toList.length:=by simp_all
 exact(List.getElem_cons_drop b).s
theorem dI(i:n=ks.length)(h:w.ownsRow r 177 2 v n (aH ks))(f:∀k,v.ownBlock=J k->A k):ju A w v ks:=by
 subst i;rcases h.2 with⟨rfl,e⟩|⟨g,b,cur,rfl,hbg,d,hnc,hcm,hcs,htake⟩;have:=tb.1 e;subst this;exact⟨N,0,rfl,λ_=>Q,λh=>lk Q h⟩;refine⟨_,b,Q,(λh=>by cases h),λ_=>⟨g,Q,f g Q,(eS d).1,λj c=>?_⟩⟩;rw[fu]at c;exact h.cellAt j c
theorem nM{h}(l:n=h.length)(c:w.ownsRow r 62 3 v n (aw h))(e:∀k,v.ownBlock=J k->A k):bO A w v h:=by
 subst l;rcases c.2 with⟨rfl,f⟩|⟨g,b,cur,rfl,hbg,i,hnc,hcm,hcs,htake⟩;have:=tb.1 f;subst this;exact⟨N,0,rfl,λ_=>Q,λh=>lk Q h⟩;refine⟨_,b,Q,(λh=>by cases h),λ_=>⟨g,Q,e g Q,(eS i).1,λj d=>?_⟩⟩;rw[ft]at d;exact c.cellAt j d
theorem cC{l z}(h:w.ownsRow n 145 3 (M (J ⟨g,0,N⟩) 1 1) 1 [v,l,z]):
  (w.cell? ⟨g,0,N⟩=J v/\w.cell? ⟨g,1,N⟩=J l/\w.cell? ⟨g,2,N⟩=J z)/\∀j,w.frozen? ⟨g,j,N⟩=false:=
 ⟨⟨h.cellAt 0 (by omega),h.cellAt 1 (by omega),h.cellAt 2 (by omega)⟩,λj=>h.frozenAt j⟩
def Grow(A:H->Prop)(w:Wj):H->Prop:=λb=>(A b/\b<w.heap.size)\/w.heap.size<=b
def K9(n:H):Prop:=∀ (A:H->Prop)(p:gL Wu)(f:S g6->S Ver)(a:lj)(b:Wx)(h:S Ver)(w:Wj),ao A n w p f->a.size<n->a.size<=1000->bO A w b h->h≠[] ->
 Calls Vp 69 #[O p,U a,b] w λe c=>∃g,e=Nm (O (J ⟨g,0,N⟩))/\Below w.heap.size w c/\ao (Grow A w) n c (J ⟨g,0,N⟩) (upd f a.data.toList h)
theorem jY(e:Below w.heap.size w i):∀b,A b->b<w.heap.size->Grow A w b/\i.heap[b]?=w.heap[b]?:=
 λb d a=>⟨wd ⟨d,a⟩,e.block b a⟩
theorem JR(f:S g6->S Ver)h:upd f [] h []=h:=by simp[upd]
theorem vu(f:S g6->S Ver)h(c:g6)k:upd f [] h (c::k)=f (c::k):=by simp[upd]
theorem jy(f:S g6->S Ver)h(c:g6)k:upd f (c::k) h []=f []:=by simp[upd]
theorem upd_same(f:S g6->S Ver)h(c:g6)k:(λx=>upd f (c::k) h (c::x))=upd (λx=>f (c::x)) k h:=by funext x;simp[upd]
theorem pP(f:S g6->S Ver)h(c d:g6)k(a:d≠c):(λx=>upd f (c::k) h (d::x))=λx=>f (d::x):=by funext x;simp[upd,a]
theorem rv{j}{l r}(a:Made A n w j f g l r p)b i h(u:bO A w i h)(v:b=!h.isEmpty)o
  (s:o=(j.setCell ⟨g,0,N⟩ (C b)).setCell ⟨g,1,N⟩ i):
  Below w.heap.size w o/\ao (Grow A w) (n+1) o (J ⟨g,0,N⟩) (upd f [] h):=by
 subst s;have m:=a.node.lt g Q;have s1:=a.node.stored 0 (C b);have s2:=s1.1.stored 1 i;have d:Below w.heap.size w ((j.setCell ⟨g,0,N⟩ (C b)).setCell ⟨g,1,N⟩ i):=(a.below.setCell m.1 _).setCell m.1 _;have⟨⟨y,B,t⟩,fz⟩:=cC s2.1;refine⟨d,vx ⟨g,i,r,p,Q,vx m.1,?_,B,t,?_,?_,a.sorted,?_,?_,a.NH⟩⟩;rw[JR,<-v];exact y;exact cw.Mr u (jY d);exact dI Q (a.kids.kept (cG s1.2 s2.2) (vx a.apart)) (λk e=>vx (a.kids.lt k e).1);intro c q x;have:(λk=>upd f [] h (c::k))=λk=>f (c::k):=by funext k;exact vu f h c k
 exact ao.Mr (jY d) n q _ (a.child c q x);exactλc z k=>a.Nl c z k
theorem yg n(A:H->Prop)(p:gL Wu)(f:S g6->S Ver)(b:lj)k h w(r:ao A (n+1) w p f)(q:b.size=0)(l:bO A w k h)(c:h≠[]):
  Calls Vp 69 #[O p,U b,k] w λe j=>∃g,e=Nm (O (J ⟨g,0,N⟩))/\Below w.heap.size w j/\ao (Grow A w) (n+1) j (J ⟨g,0,N⟩) (upd f b.data.toList h):=by
 have d:b.data.toList=[]:=nF (by simpa using q);have hke:b.toList.isEmpty=true:=by simp_all
 have i:=l;obtain⟨ha,hc,rfl,-⟩:=i;go_enter (Yq.nq func69),ntmps69;go_wp2_with fail
 refine(mg A n p f w r).m ?_;rintro e w1 ⟨g,hv0,kv,ks,rfl,a⟩;have⟨⟨c0,c1,c2⟩,fz⟩:=cC a.node;go_wp2;go_ret;have hd:=rv a Y _ h (jf d l).o.2 (by simp[c]) _ Q
 simp_all
structure Rdy (A:H->Prop)(n:H)(w w3:Wj)(f:S g6->S Ver)(g:H)(hv0:Wx)(k cap:H)(ks:S (g6×gL Wu))(r:H)(c:g6)(q:gL Wu)(d:H):Prop where
 below:Below w.heap.size w w3
 node:w3.ownsRow w.heap.size 145 3 (M (J ⟨g,0,N⟩) 1 1) 1 [C (!(f []).isEmpty),hv0,M (J ⟨k,0,N⟩) (aT ks r c q d).length cap]
 kids:w3.ownsRow w.heap.size 177 2 (M (J ⟨k,0,N⟩) (aT ks r c q d).length cap) (aT ks r c q d).length (aH (aT ks r c q d))
 apart:k≠g
 OB:bO A w hv0 (f [])
 sorted:ks.Pairwise (λa b=>a.1<b.1)
 place:Place ks c r
 Pz:d=if qz ks c r then 1 else 0
 child:∀c q,(c,q)∈ks->ao A n w q (λk=>f (c::k))
 Nl:∀c,(∀q,(c,q) ∉ ks)->∀k,f (c::k)=[]
 NH:∀c q,(c,q)∈ks->q≠N
 this:ao A n w q (λk=>f (c::k))
theorem iu(hr:r<=a.length):r<(aT a r c q d).length:=by
 unfold aT;rw[lP,tL,lC];omega
theorem m8(b:r<=a.length):(aT a r c q d)[r]'(iu b)=(c,q):=by
 have e:(aT a r c q d)[r]?=J (c,q):=by
  unfold aT
  grind
 grind
theorem Br{q':gL Wu}(hr:r<=a.length):(aT a r c q d).take r++(c,q')::(aT a r c q d).drop (r+1)=aT a r c q' d:=by
 have b:(a.take r).length=r:=by grind
 unfold aT;rw[sq b,show(a.take r++(c,q)::a.drop (r+d))=(a.take r++[(c,q)])++a.drop (r+d)by simp,List.drop_left' (by simp[b])]
theorem iS{q':gL Wu}:(aT a r c q d).length=(aT a r c q' d).length:=by
 unfold aT;simp
theorem Rdy.cells{A:H->Prop}{n}{w b}{f:S g6->S Ver}{g}{e}{k a}{i}{r}{c:g6}{q:gL Wu}{d}(R:Rdy A n w b f g e k a i r c q d):
  b.cell? ⟨g,2,N⟩=J (M (J ⟨k,0,N⟩) (aT i r c q d).length a)/\b.cell? ⟨k,r*2+1,N⟩=J (O q)/\b.frozen? ⟨k,r*2+1,N⟩=Z/\(aT i r c q d).length<=256:=by
 have⟨⟨c0,c1,j⟩,fz⟩:=cC R.node;have h:=iu (c:=c) (q:=q) (d:=d) R.place.le;obtain⟨g',cap',l,-,-,m,-⟩:=(dI Q R.kids (λ_ _=>trivial)).cells (by grind);cases l;refine⟨j,?_,R.kids.frozenAt _,m0 _ (iR R.sorted R.place q d R.Pz)⟩;have:=(m r h).2;rw[m8 R.place.le]at this;exact this
theorem Rdy.done{p}{k v}(R:Rdy A n w G f g p k v z r c q d)
  (D:Wj) (B:Below G.heap.size G D) (a:gL Wu) (F:S g6->S Ver) (P:F []=f []) (L:∀h,h≠c->(λx=>F (h::x))=λx=>f (h::x))
  (hq:ao (Grow (λb=>A b/\b<w.heap.size) G) n D a (λx=>F (c::x))) (wf:Wj) (ab:wf=D.setCell ⟨k,r*2+1,N⟩ (O a)):
  Below w.heap.size w wf/\(a≠N->ao (Grow A w) (n+1) wf (J ⟨g,0,N⟩) F) /\
   wf.ownsRow w.heap.size 145 3 (M (J ⟨g,0,N⟩) 1 1) 1 [C (!(f []).isEmpty),p,M (J ⟨k,0,N⟩) (aT z r c a d).length v] /\
   wf.ownsRow w.heap.size 177 2 (M (J ⟨k,0,N⟩) (aT z r c a d).length v) (aT z r c a d).length (aH (aT z r c a d)):=by
 subst ab;have T:=R.kids.lt k Q;have o:G.grownBy D none:=⟨B.os,B.tape,B.output,B.size,λi hi _=>B.block i hi⟩;have V:=(R.kids.kept o (by simp[dT])).stored (r*2+1) (O a);have n5:=(R.node.kept o (by simp[dT])).kept V.2 (vx (by simp[dT];exactλe=>R.apart e.s));rw[vr _ r c a (iu R.place.le) (by rw[m8 R.place.le]),Br R.place.le,iS (q':=a)]at V;rw[iS (q':=a)]at n5;have u:Below w.heap.size w (D.setCell ⟨k,r*2+1,N⟩ (O a)):=(R.below.t (B.m R.below.size)).setCell T.1 _;obtain⟨⟨c0,c1,c2⟩,-⟩:=cC n5;refine⟨u,λaf=>vx ⟨g,p,_,aT z r c a d,Q,vx (R.node.lt g Q).1,by rw[P];exact c0,c1,c2,by rw[P];exact cw.Mr R.OB (jY u),?_,iR R.sorted R.place a d R.Pz,?_,?_,?_⟩,n5,V.1⟩;exact dI Q V.1 (λj e=>by simp[dT]at e;subst e;exact vx T.1);intro h x hx;rcases ru R.sorted R.place a d R.Pz h x hx with⟨rfl,rfl⟩|⟨l,hm⟩;refine ao.Mr (λb ad hb2=>?_) n x _ hq;rcases ad with⟨⟨hA,aa⟩,_⟩|hge;exact⟨wd ⟨hA,aa⟩,bS _ _ _ _ (by show b≠k;omega)⟩;have:=R.below.size;exact⟨vx (by omega),bS _ _ _ _ (by show b≠k;omega)⟩;rw[L h l];exact ao.Mr (jY u) n x _ (R.child h x hm);intro h ac y;have⟨l,X⟩:=vt R.sorted a d R.Pz h ac;have:=congrFun (L h l) y;rw[this];exact R.Nl h X y;intro h x hx;rcases ru R.sorted R.place a d R.Pz h x hx with⟨rfl,rfl⟩|⟨l,hm⟩;exact af;exact R.NH h x hm
theorem Made.rdy{p u}{l x}(a:Made A n w p f g l x b)(j:Below p.heap.size p u)(y:Place b c r)(o:qz b c r=Y):
  ∃k d q,x=M (J ⟨k,0,N⟩) (aT b r c q 1).length d/\Rdy A n w u f g l k d b r c q 1:=by
 have⟨B,s⟩:=Place.mem o;have z:aT b r c b[r].2 1=b:=by
  unfold aT;have:(c,b[r].2)=b[r]:=by grind
  simp_all
 have h:p.grownBy u none:=⟨j.os,j.tape,j.output,j.size,λi D _=>j.block i D⟩;have n2:=a.node.kept h (by simp[dT]);have v:=a.kids;rcases v.2 with⟨_,h0⟩|⟨k,d,cur,rfl,_⟩;omega;have v:=a.kids.kept h (by simp[dT]);refine⟨k,d,b[r].2,by rw[z],a.below.t (j.m a.below.size),?_,?_,λe=>a.apart (by simp[dT,e]),a.OB,a.sorted,y,by simp[o],a.child,a.Nl,a.NH,a.child c _ (by rw[<-s];exact List.getElem_mem B)⟩
 grind
 grind
theorem cq{s}{c}{d}(h:w.ownsRow r s c v n d)(hn:0<n):∃g b,v=M (J ⟨g,0,N⟩) n b/\r<=g/\g<w.heap.size/\n<=b:=by
 rcases h.2 with⟨rfl,rfl⟩|⟨g,b,cur,rfl,hb,hg,hc,_⟩;omega
 grind
theorem aO{b}(a:Below w.heap.size w b)(r:gL H):w.grownBy b r:=⟨a.os,a.tape,a.output,a.size,λi c _=>a.block i c⟩
theorem Made.Pc{v F y}{l D}(a:Made A n w v f g l D b)(B:Below v.heap.size v G)(L:Place b c r)(o:qz b c r=Z)
  (i:Below G.heap.size G F) (k d:H) (V:y.ownsRow w.heap.size 177 2 (M (J ⟨k,0,N⟩) (b.length+1) d) (b.length+1) (aH (aT b r c N 0))) (q:F.grownBy y D.ownBlock)
  (u:(gI (J ⟨k,0,N⟩) (b.length+1) d).ownBlock=D.ownBlock\/∀j,(gI (J ⟨k,0,N⟩) (b.length+1) d).ownBlock=J j->F.heap.size<=j):
  (aT b r c N 0).length=b.length+1/\Rdy A n w (y.setCell ⟨g,2,N⟩ (M (J ⟨k,0,N⟩) (b.length+1) d)) f g l k d b r c N 0:=by
 have x:(aT b r c N 0).length=b.length+1:=by
  unfold aT;rw[lP,tL,lC,lD];omega
 have z:=a.node.lt g Q;have p:k≠g:=by
  intro e;rcases u with h|h;exact a.apart (by rw[<-h,e];rfl);have:=h k Q;have:=B.size;have:=i.size;omega
 have P:=a.below.t (B.m a.below.size);have T:=P.t (i.m P.size);have R:=(((a.node.kept (aO B N) (by simp[dT])).kept (aO i N) (by simp[dT])).kept q (vx (by simp;exactλe=>a.apart e.s))).stored 2 (M (J ⟨k,0,N⟩) (b.length+1) d);refine⟨x,(T.grown q T.size (λj e=>(a.kids.lt j e).1)).setCell z.1 _,by rw[x];exact R.1,by rw[x];exact(V.kept R.2 (vx (by simp[dT];exact p))),p,a.OB,a.sorted,L,by simp[o],a.child,a.Nl,a.NH,ao.nil (a.Nl c (L.N6 a.sorted o))⟩
theorem bj{k:gL H}(f:w.grownBy i k)a(c:a.block<w.heap.size)(d:J a.block≠k):i.frozen? a=w.frozen? a:=
 fB (w:=w) (f.block a.block c d)
theorem Bt n(ih:K9 n)(A:H->Prop)(p:gL Wu)(f:S g6->S Ver)(j:lj)hv h w(hN:ao A (n+1) w p f)(hk:0<j.size)(hkn:j.size<n+1)(hk2:j.size<=1000)(hh:bO A w hv h)(al:h≠[]):
  Calls Vp 69 #[O p,U j,hv] w λe w'=>∃g,e=Nm (O (J ⟨g,0,N⟩))/\Below w.heap.size w w'/\ao (Grow A w) (n+1) w' (J ⟨g,0,N⟩) (upd f j.data.toList h):=by
 have aa:=mg A n p f w hN;have P:=zJ j hk;have hke:j.toList.isEmpty=false:=by rw[ByteArray.toList_eq,P];rfl
 have av:=hh;obtain⟨ha,hc,rfl,-⟩:=av;have ac:=jf P hh;have IH:=aI ih;clear P hN hh ih;go_enter (Yq.nq func69),ntmps69;go_wp2_with fail
 refine aa.m ?_;rintro e w1 ⟨g,a0,kv,l,rfl,i⟩;have⟨⟨c0,c1,c2⟩,fz⟩:=cC i.node;have D:ju (λ_=>True) w1 kv l:=dI Q i.kids (λ_ _=>trivial);have ab:=pM (λ_=>True) g kv l j[0] w1 c2 D i.sorted;clear aa c0 c1 c2 fz D;go_wp2_with fail
 refine ab.m ?_;rintro e y ⟨r,V,rfl,u⟩;clear ab
 go_upto_if 30 with fail
 go_cut [9] (λ_ wx=>∃k v q d,Rdy A n w wx f g a0 k v l r j[0] q d)
 case first=>
  cases G:qz l j[0] r with
  |true=>
   obtain⟨k,v,q,rfl,R⟩:=i.rdy u V G;have HR:=aI R;clear R i V;go_wp2
   go_meet
   case rel=>exact⟨k,v,q,1,HR.o⟩
  |false=>
   have D:=i.kids;obtain⟨X,kc,rfl,-⟩:=az i.kids;have hle:=m0 l i.sorted;have af:=ag u (cC i.node).1.2.2;have a1:=(u.frozen (p:=⟨g,2,N⟩) (i.node.lt g Q).2).t ((cC i.node).2 2);have F:g<y.heap.size:=bC y _ af;have HI:Hid (∀z:Wj,z.heap=(y.alloc (E #[I .u8 (j[0].toNat:jp),O N] 177)).heap ->
     Calls Vp 93 #[M X l.length kc,I K r,M (J ⟨y.heap.size,0,N⟩) 1 1] z (jx w.heap.size (M X l.length kc) r l.length (aH l) (I .u8 (j[0].toNat:jp)) (O N) z)):=λz T=>by
    have ap:Below y.heap.size y (y.alloc (E #[I .u8 (j[0].toNat:jp),O N] 177)):=(bR _ _).alloc (lR _) _;have kq:=(i.kids.kept (aO u N) (by cases h:dT (M X l.length kc)<;>simp)).alloc (E #[I .u8 (j[0].toNat:jp),O N] 177);have aj:z.ownsRow w.heap.size 177 2 (M X l.length kc) l.length (aH l):=by
     unfold World.ownsRow at kq ⊢;rw[T];exact kq
    refine GE w.heap.size _ l.length r (aH l) y.heap.size _ _ z aj (by omega) V.le 177 (by rw[T];exact PY y _) ?_ ⟨Q,Q⟩ (jw l) (by rw[T];have:=(i.below.t (u.m i.below.size)).size;have:=ap.size;omega);intro e;have:=(i.kids.lt _ e).2;have:=u.size;omega
   have HM:=xh G V i;clear G V i D;go_wp2_with fail
   go_region_with (go_at_call 93;refine(HI.o ((y.alloc (E #[I .u8 (j[0].toNat:jp),O N] 177)).drew) Q).m ?_;rintro e w3 ⟨v',rfl,ho,L,ai⟩;obtain⟨k,v,rfl,-,-,-⟩:=cq ho (Nat.succ_pos _);have k2:w3.cell? ⟨g,2,N⟩=J (M X l.length kc):=L.cell (a:=⟨g,2,N⟩) (ag ((bR _ y).alloc (lR _) _) af) (λe=>HM.o.2.2.apart e.s);have kf:w3.frozen? ⟨g,2,N⟩=false:=(bj L ⟨g,2,N⟩ (lL F (by simp)) (λe=>HM.o.2.2.apart e.s)).t ((((bR _ y).alloc (lR _) _).frozen (p:=⟨g,2,N⟩) F).t a1))
   all_goals
    go_wp2_with fail
    go_meet
    case rel=>
     rw[vo]at ho;exact⟨k,v,N,0,(HM.o.2.2.Pc u HM.o.2.1 HM.o.1 ((bR _ y).alloc (lR _) _).drew k v ho L ai).2⟩
 case rest=>
  obtain⟨k,v,q,d,R⟩:=hcut;have⟨c2,d1,fr,hl⟩:=R.cells;have hr:=iu (c:=j[0]) (q:=q) (d:=d) R.place.le;clear i V u;generalize hm:(aT l r j[0] q d).length=m at *;have HL:=aI hm;clear hm;have HQ:Hid (∀z:Wj,z.heap=wc.heap->ao (λb=>A b/\b<w.heap.size) n z q (λx=>f (j[0]::x))/\bO (λb=>A b/\b<w.heap.size) z (M ha h.length hc) h):=λz T=>
   ⟨ao.Mr (λb h1 h2=>⟨⟨h1,h2⟩,by rw[T];exact R.below.block b h2⟩) n q _ R.this,cw.Mr ac.o.2 (λb h1 h2=>⟨⟨h1,h2⟩,by rw[T];exact R.below.block b h2⟩)⟩
  have ad:Hid ((j.extract 1 j.size).size<n/\(j.extract 1 j.size).size<=1000):=by
   have:(j.extract 1 j.size).size=j.size-1:=by simp
   exact⟨by omega,by omega⟩
  go_wp2_with fail
  go_region_with (go_at_call 69;refine(IH.o (λb=>A b/\b<w.heap.size) q (λx=>f (j[0]::x)) _ _ h _ ?_ ?_ ?_ ?_ al).m ?_;exact(HQ.o wc.drew Q).1;exact ad.o.1;exact ad.o.2;exact(HQ.o wc.drew Q).2;rintro e w4 ⟨g',rfl,B,a2⟩;have k2:=ag (W:=wc.drew) B c2;have kd:=ag (W:=wc.drew) B d1;have kf:=(B.frozen (p:=⟨k,r*2+1,N⟩) (bC wc _ d1)).t fr)
  all_goals
   go_wp2;go_ret;have hd:=R.done w4 ((bR _ wc).drew.t B) (J ⟨g',0,N⟩) (upd f (j[0]::(j.extract 1 j.size).data.toList) h) (jy _ _ _ _) (λc' ar=>pP _ _ _ _ _ ar) (by rw[upd_same];exact a2) _ Q;rw[ac.o.1];exact⟨g,Q,hd.1,hd.2.1 (by simp)⟩
theorem DC:∀n,K9 n:=by
 intro n;induction n with
 |zero=>intro A p f a d h w _ e;omega
 |succ n ih=>
  intro A p f a d h w j e c i b;by_cases k:a.size=0
  exact yg n A p f a d h w j k i b;exact Bt n ih A p f a d h w j (by omega) e c i b
end
