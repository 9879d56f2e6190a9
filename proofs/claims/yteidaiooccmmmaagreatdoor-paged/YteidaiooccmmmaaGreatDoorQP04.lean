/- A part. -/
import Derived.Test.YteidaiooccmmmaaGreatDoorQP03
import Derived.Lib.SliceRun
import Derived.Laws.AppendOwnNone
import Derived.Deep.RegionHeld3
import Derived.Lib.AppendZerosOnto
import Derived.Lib.Overlaps
import Derived.Laws.Externs
import Derived.Laws.NewBlocks
set_option maxHeartbeats 4000000
set_option maxRecDepth 100000
open Go renaming World->Wj,Value->Wx,TypeId->Ww,Addr->Wu
namespace Go.Proofs.Qw
open Option renaming none->N,some->J
open Bool renaming true->Y,false->Z
open Value renaming int->I,string->U,slice->M,pointer->O,bool->C
open IntKind renaming i64->K
open Obj renaming cells->E
variable {A:Nat->Prop}{h w:Wj}{d g n r:Nat}{o:Oper}{Q:Exit->Act->Wj->Prop}{i l s:Wx}{f:List UInt8->List Ver}{k ks t:List (UInt8×Option Wu)}{q:Option Wu}
open Tryz
section
open Go.RowKit
theorem Yq.infoKid:(Yq.prog.info? 177).map (λi=>(i.zero,i.size,i.bytes))=J (J (.agg #[I .u8 0,O N]),2,16):=by kernel_rfl
theorem Yq.infoVer:(Yq.prog.info? 62).map (λi=>(i.zero,i.size,i.bytes))=J (J (.agg #[I K 0,U ⟨#[]⟩,C Z]),3,32):=by kernel_rfl
theorem bZ.src{v:Wx}{c:List Wx}(h:bZ A w v n c)(hl:n=0->c=[]):(v=M N 0 0/\n=0\/∃f b,v=M (J f) n b/\∀j u,c[j]?=J u->w.cell? (f.add j)=J u)\/(∃b,v=M N n b/\n≠0/\c=[]):=by
 obtain⟨a,b,rfl,q,p⟩:=h;cases a with
 |none=>
  have:=q rfl;subst this;by_cases o:n=0
  .subst o;exact Or.inl (Or.inl ⟨rfl,rfl⟩)
  .refine Or.inr ⟨0,rfl,o,?_⟩;by_cases d:c=[]
   .exact d
   .have ⟨g,m,_⟩:=p d;cases m
 |some f=>
  refine Or.inl (Or.inr ⟨f,b,rfl,λj u l=>?_⟩);have k:c≠[]:=by intro e;subst e;simp at l
  have⟨g,m,hA,hg,r⟩:=p k;cases m;have i:=(sL l).1;rw[Addr.add_lit,zA,r j i];exact l
theorem zf(A:Nat->Prop)(v:Wx)(n:Nat)(b:List Wx)(w:Wj)(h:bZ A w v n b)(t:b.length=n*2)(hn:n<=1000)(F:∀u∈b,u.oneCell'=Y):
  Calls Yq.prog 107 #[v] w λe s=>∃i,e=.returned i/\s.ownsRow w.heap.size 177 2 i n b/\Below w.heap.size w s:=by
 have⟨x,y,p,r,l⟩:=info_parts Yq.infoKid;have q:∀ (w:Wj) (a:Option Wu) (n c m o:Nat),(binOp .eql 143 (M a n c) (M N m o)).run Yq.prog w=.ok (C a.isNone) w:=λw a n c m o=>Lib.run_eql_slice_nil w _ _ a n c m o (Yq.u underlying143)
 rcases h.src (λh=>by subst h;exact List.eq_nil_of_length_eq_zero (by omega))with(⟨rfl,rfl⟩|⟨ad,cap,rfl,hc⟩)|⟨cap,rfl,hn0,rfl⟩
 .have z:b=[]:=List.eq_nil_of_length_eq_zero (by omega);subst z;go_enter (Yq.nq func107),ntmps107;go_wp2;go_ret;exact⟨_,rfl,World.ownsRow_nil _ _ _ _,bR _ _⟩
 .have HC:Hid (∀j u,b[j]?=J u->w.cell? (ad.add j)=J u):=hc;clear hc;go_enter (Yq.nq func107),ntmps107;go_wp2_with (at_builtin;refine wpList_append_own _ rfl _ _ 143 rfl w.heap.size 177 x _ 2 16 (Yq.u underlying143) y p r l rfl (by decide) _ _ _ rfl (World.ownsRow_made w #[] 0 (lR _) (Nat.zero_le _) (by simp)) ad n cap b rfl ?qc1 ?qc2 ?qc3 ?qc4 ?qc5 ?qc6 ?_)
  case qc1=>exact t
  case qc2=>
   intro j u D;exact ah ((bR _ _).alloc (lR _) _) (HC.out j u D)
  case qc3=>exact F
  case qc4=>rw[zA];simp only[maxLen];omega
  case qc5=>rw[zA];omega
  case qc6=>simp
  intro i w1 f d hnil;go_wp2;go_ret;refine⟨i,rfl,by simpa using f,?_⟩;exact((bR _ w).alloc (lR _) _).grown d (by simp) (by intro k B;simp[Value.ownBlock]at B;omega)
 .simp at t;omega
theorem zg(A:Nat->Prop)(v:Wx)(n:Nat)(b:List Wx)(w:Wj)(h:bZ A w v n b)(t:b.length=n*3)(hn:n<=2199023255552)(F:∀u∈b,u.oneCell'=Y):
  Calls Yq.prog 71 #[v] w λe s=>∃i,e=.returned i/\s.ownsRow w.heap.size 62 3 i n b/\Below w.heap.size w s:=by
 have⟨x,y,p,r,l⟩:=info_parts Yq.infoVer;have q:∀ (w:Wj) (a:Option Wu) (n c m o:Nat),(binOp .eql 96 (M a n c) (M N m o)).run Yq.prog w=.ok (C a.isNone) w:=λw a n c m o=>Lib.run_eql_slice_nil w _ _ a n c m o (Yq.u underlying96)
 rcases h.src (λh=>by subst h;exact List.eq_nil_of_length_eq_zero (by omega))with(⟨rfl,rfl⟩|⟨ad,cap,rfl,hc⟩)|⟨cap,rfl,hn0,rfl⟩
 .have z:b=[]:=List.eq_nil_of_length_eq_zero (by omega);subst z;go_enter (Yq.nq func71),ntmps71;go_wp2;go_ret;exact⟨_,rfl,World.ownsRow_nil _ _ _ _,bR _ _⟩
 .have HC:Hid (∀j u,b[j]?=J u->w.cell? (ad.add j)=J u):=hc;clear hc;go_enter (Yq.nq func71),ntmps71;go_wp2_with (at_builtin;refine wpList_append_own _ rfl _ _ 96 rfl w.heap.size 62 x _ 3 32 (Yq.u underlying96) y p r l rfl (by decide) _ _ _ rfl (World.ownsRow_made w #[] 0 (lR _) (Nat.zero_le _) (by simp)) ad n cap b rfl ?qc1 ?qc2 ?qc3 ?qc4 ?qc5 ?qc6 ?_)
  case qc1=>exact t
  case qc2=>
   intro j u D;exact ah ((bR _ _).alloc (lR _) _) (HC.out j u D)
  case qc3=>exact F
  case qc4=>rw[zA];simp only[maxLen];omega
  case qc5=>rw[zA];omega
  case qc6=>simp
  intro i w1 f d hnil;go_wp2;go_ret;refine⟨i,rfl,by simpa using f,?_⟩;exact((bR _ w).alloc (lR _) _).grown d (by simp) (by intro k B;simp[Value.ownBlock]at B;omega)
 .simp at t;omega
theorem eK(h:List Ver):∀u∈aq h,u.oneCell'=true:=by
 intro u a;simp only[aq,List.mem_flatMap]at a;obtain⟨v,_,a⟩:=a;simp at a;rcases a with rfl|rfl|rfl<;>rfl
theorem iU(h:List (UInt8×Option Wu)):∀u∈aC h,u.oneCell'=true:=by
 intro u a;simp only[aC,List.mem_flatMap]at a;obtain⟨v,_,a⟩:=a;simp at a;rcases a with rfl|rfl<;>rfl
theorem zh(A:Nat->Prop)(v:Wx)(a:List (UInt8×Option Wu))(w:Wj)(h:gz A w v a)(hn:a.length<=256):
  Calls Yq.prog 107 #[v] w λe b=>∃c,e=.returned c/\b.ownsRow w.heap.size 177 2 c a.length (aC a)/\Below w.heap.size w b:=
 zf A v _ _ w h (eJ a) (by omega) (iU a)
theorem pP(A:Nat->Prop)(v:Wx)(h:List Ver)(w:Wj)(c:bm A w v h)(d:h.length<=2199023255552):
  Calls Yq.prog 71 #[v] w λe a=>∃b,e=.returned b/\a.ownsRow w.heap.size 62 3 b h.length (aq h)/\Below w.heap.size w a:=
 zg A v _ _ w c (fP h) d (eK h)
section
variable {P:Program}
theorem fc(w:Wj)(n z r e:Ww)(i:TypeInfo)(g o b h:Nat)(a:Wu)(d k:Nat)(c:Array Wx)(t:Ww)(cs:List Wx)
  (q:P.underlying n=J (.slice e)) (u:P.info? e=J i)
  (s:w.heap[g]?=J (.cells c t (0,0))) (x:cs.length=Nat.min d b*i.size)
  (l:∀j v,cs[j]?=J v->w.cell? (a.add j)=J v) (f:o+cs.length<=c.size) (y:∀v∈cs,v.oneCell'=Y):
  (Builtin.copy_ #[n,z] r #[.slice (J ⟨g,o,N⟩) b h,.slice (J a) d k]).run P w =
   .ok (goInt (Nat.min d b)) (w.setRow g (c.toList.take o++cs++c.toList.drop (o+cs.length)).toArray):=by
 have p:=run_loadCells_list (P:=P) w a cs l;have m:=run_storeCells_at P g o t cs 0 c w s (by simpa using f) y;simp[Builtin.copy_,run_underlying q,Builtin.lenOf,Builtin.firstCells,sizeOf,typeInfo,u,<-x,p,m]
theorem kF(w:Wj)(t e m:Ww)(z:Wx)(l:P.underlying t=J (.slice e))(k:∀w,(zeroValue e).run P w=.ok z w)(j:∀v∈z.cells.toList,v.oneCell'=Y)
  (g o c:Nat) (a:Array Wx) (T:Ww) (n:w.heap[g]?=J (.cells a T (0,0))) (d:o+z.cells.size<=a.size):
  (Builtin.clear_ #[t] m #[.slice (J ⟨g,o,N⟩) 1 c]).run P w=.ok (.tuple #[]) (w.setRow g (a.toList.take o++z.cells.toList++a.toList.drop (o+z.cells.size)).toArray):=by
 have f:(Builtin.zeroCells z.cells 1)=z.cells:=by
  apply Array.ext
  .simp [Builtin.zeroCells]
  .intro i j h;simp[Builtin.zeroCells,Nat.mod_eq_of_lt h,h]
 have b:=run_storeCells_at P g o T z.cells.toList 0 a w n (by simpa using d) j;simp only[Nat.add_zero,lY]at b;simp[Builtin.clear_,run_underlying l,k,f,b]
theorem kG{e:Array Oper}{a:Act}{b:Act->Wj->Prop}{c:Prop}
  (q:o.guard=N) (d x:Operand) (k j:Ww) (f:o.op=Op.call {callee:=Callee.builtin Builtin.copy,args:=#[d,x],argTypes:=#[k,j]})
  (v u:Wx) (l:a.eval d=v) (r:a.eval x=u)   (n:(Builtin.copy_ #[k,j] o.type #[v,u]).run P w=.ok i h) (p:b (a.put o.dst i) h):
  if Region.wanted o (yielded e a.tmps)=Y then Oper.wp P o a w b Q else c:=by
 have m:Region.wanted o (yielded e a.tmps)=true:=by simp[Region.wanted,q]
 rw[if_pos m];unfold Oper.wp;simp[execOp,f,resolve,invoke,builtin,l,r,n,Result.andThen];exact p
theorem ee{e:Array Oper}{a:Act}{b:Act->Wj->Prop}{c:Prop}
  (q:o.guard=N) (d x:Operand) (k j:Ww) (f:o.op=Op.call {callee:=Callee.builtin Builtin.append,args:=#[d,x],argTypes:=#[k,j]})
  (v u:Wx) (l:a.eval d=v) (r:a.eval x=u)   (n:(Builtin.append_ #[k,j] o.type #[v,u]).run P w=.ok i h) (p:b (a.put o.dst i) h):
  if Region.wanted o (yielded e a.tmps)=Y then Oper.wp P o a w b Q else c:=by
 have m:Region.wanted o (yielded e a.tmps)=true:=by simp[Region.wanted,q]
 rw[if_pos m];unfold Oper.wp;simp[execOp,f,resolve,invoke,builtin,l,r,n,Result.andThen];exact p
end
theorem fd{p:Ww}{a:Nat}{c:Array Wx}{f:List Wx}(l:d<=g)(m:w.heap[g]?=J (E c p (0,0)))(i:n<=a)(k:a<=maxLen)
  (h:c.size=a*r) (j:c.toList.take (n*r)=f):w.ownsRow d p r (M (J ⟨g,0,N⟩) n a) n f:=by
 refine⟨?_,Or.inr ⟨g,a,c,rfl,l,m,i,k,h,j⟩⟩;rw[<-j,tL,lY,h];exact Nat.min_eq_left (Nat.mul_le_mul_right _ i)
theorem dv(w:Wj)(g:Nat)(cs:Array Wx):w.grownBy (w.setRow g cs) (J g):=
 ⟨rfl,rfl,rfl,by simp,λk _ a=>setRow_other w g k _ (λe=>a (by rw[e]))⟩
theorem gB{b:Wj}{r:Option Nat}(h:w.grownBy b r):w.grownBy b.drew r:=⟨h.os,h.tape,h.output,h.size,h.block⟩
theorem cw{b c:Wj}{r:Option Nat}(h:w.grownBy b r)(k:b.grownBy c r):w.grownBy c r:=
 ⟨k.os.trans h.os,k.tape.trans h.tape,k.output.trans h.output,lT h.size k.size,λi d e=>(k.block i (lL d h.size) e).trans (h.block i d e)⟩
theorem Yq.zeroKid(w:Wj):(zeroValue 177).run Yq.prog w=.ok (.agg #[I .u8 0,O N]) w:=by kernel_rfl
theorem Yq.zeroVer(w:Wj):(zeroValue 62).run Yq.prog w=.ok (.agg #[I K 0,U ⟨#[]⟩,C Z]) w:=by kernel_rfl
theorem xC{o:Type}(b c C1 a:List o)(s k i d:Nat)(e:b.length=d*s)(m:k+1<=d)(p:i<=k)(l:b.take ((k+1)*s)=c)
  (h:C1=b.take (i*s)++c.drop ((i+1)*s)++b.drop (i*s+(c.drop ((i+1)*s)).length)):
  (C1.take (k*s)++a++C1.drop (k*s+s)).take (k*s)=c.take (i*s)++c.drop ((i+1)*s):=by
 have m1:(k+1)*s=k*s+s:=by rw[Nat.add_mul,Nat.one_mul]
 have m2:(i+1)*s=i*s+s:=by rw[Nat.add_mul,Nat.one_mul]
 have m3:(k+1)*s<=d*s:=Nat.mul_le_mul_right _ m;have m4:i*s<=k*s:=Nat.mul_le_mul_right _ p;have f:c.length=(k+1)*s:=by rw[<-l,tL,e];omega
 have n:b.take (i*s)=c.take (i*s):=by rw[<-l,List.take_take,Nat.min_eq_left (by omega)]
 have j:(b.take (i*s)++c.drop ((i+1)*s)).length=k*s:=by
  rw[lP,tL,lD,e,f];omega
 have q:C1.take (k*s)=b.take (i*s)++c.drop ((i+1)*s):=by rw[h];exact List.take_left' j
 rw[q,pA,List.take_left' j,n]
theorem Ed(n g k d i:Nat)(B:List Wx)(w:Wj)(S:w.ownsRow n 177 2 (M (J ⟨g,0,N⟩) (k+1) d) (k+1) B)(hi:i<=k)(hn:k<=2199023255552)(h1:∀u∈B,u.oneCell'=Y):
  Calls Yq.prog 92 #[M (J ⟨g,0,N⟩) (k+1) d,I K i,I K ((i:Int)+1)] w λe w'=>e=.returned (M (J ⟨g,0,N⟩) k d) /\
   w'.ownsRow n 177 2 (M (J ⟨g,0,N⟩) k d) k (B.take (i*2)++B.drop ((i+1)*2))/\w.grownBy w' (J g):=by
 have⟨i0,ad,hz0,G,hz2⟩:=info_parts Yq.infoKid;obtain⟨z,hr⟩:=S;rcases hr with⟨h0,_⟩|⟨g',cap',l,hv,ab,hg,H,D,Q,m⟩
 .cases h0
 cases hv;obtain⟨a,hZ⟩:∃a:List Wx,a=(Value.agg #[I .u8 0,O N]).cells.toList:=⟨_,rfl⟩;obtain⟨f,j⟩:∃f,f=B.drop ((i+1)*2):=⟨_,rfl⟩;have v:f.length=(k-i)*2:=by rw[j,lD,z];omega
 obtain⟨A,hA,aa⟩:∃A:Wu,(if d=i+1 then J (⟨g,0,N⟩:Wu)else J ⟨g,(i+1)*2,N⟩)=J A/\Hid (∀t u,f[t]?=J u->w.drew.cell? (A.add t)=J u):=by
  by_cases h:d=i+1
  .refine ⟨⟨g,0,N⟩,by simp[h],λt u L=>?_⟩;have h0:f=[]:=List.eq_nil_of_length_eq_zero (by omega);rw[h0]at L;simp at L
  .refine ⟨⟨g,(i+1)*2,N⟩,by simp[h],λt u L=>?_⟩;rw[Addr.add_lit,j,List.getElem?_drop,<-m,List.getElem?_take]at *;have F:(if(i+1)*2+t<(k+1)*2 then l.toList[(i+1)*2+t]? else N)=J u:=L;split at F
   .show w.cell? _=_;rw[World.cell?];simpa[hg]using F
   .cases F
 have R:l.toList.length=d*2:=by rw[lY,Q]
 obtain⟨C1,y⟩:∃C1,C1=l.toList.take (i*2)++f++l.toList.drop (i*2+f.length):=⟨_,rfl⟩;have o:C1.length=d*2:=by rw[y];simp only[lP,tL,lD,R,v];omega
 obtain⟨W1,r⟩:∃W1,W1=w.drew.setRow g C1.toArray:=⟨_,rfl⟩;have p:W1.heap[g]?=J (E C1.toArray 177 (0,0)):=by rw[r];exact setRow_heap w.drew g l _ _ _ hg
 have T:∀x c,(Builtin.append_ #[143,143] x #[M (J ⟨g,0,N⟩) i d,M (J A) (k-i) c]).run Yq.prog w.drew=.ok (M (J ⟨g,0,N⟩) k d) W1:=λx c=>by
  have:=run_append_room (P:=Yq.prog) w.drew 143 x 177 i0 (Yq.u underlying143) ad g i d l hg A (k-i) c f (by rw[G];exact v) aa.out (λu L=>h1 u (by rw[j]at L;exact List.mem_of_mem_drop L)) (by omega) (by rw[G,v,Q];omega);rw[this,G,r,y,show i+(k-i)=k by omega]
 obtain⟨C2,s⟩:∃C2,C2=C1.take (k*2)++a++C1.drop (k*2+2):=⟨_,rfl⟩;obtain⟨W2,q⟩:∃W2,W2=W1.setRow g C2.toArray:=⟨_,rfl⟩;have hcr:∀x c,(Builtin.clear_ #[143] x #[M (J ⟨g,k*2,N⟩) 1 c]).run Yq.prog W1=.ok (.tuple #[]) W2:=λx c=>by
  rw[q,s,hZ];exact kF W1 143 177 x (Value.agg #[I .u8 0,O N]) (Yq.u underlying143) Yq.zeroKid (by simp[Value.cells,Value.oneCell']) g (k*2) c C1.toArray _ p (by simp[Value.cells,o];omega)
 have V:W2.ownsRow n 177 2 (M (J ⟨g,0,N⟩) k d) k (B.take (i*2)++B.drop ((i+1)*2)):=by
  rw[q];refine fd ab (setRow_heap W1 g _ _ _ _ p) (by omega) D ?_ ?_
  .rw [s,hZ];simp only[lZ,lP,tL,lD,o,Value.cells,lC,lN];omega
  .rw [s];exact xC l.toList B C1 a 2 k i d R H hi m (by rw[y,j])
 have ac:w.grownBy W2 (J g):=by
  rw[q];refine cw (b:=W1) ?_ (dv _ _ _);rw[r];exact cw (gB (World.grownBy.refl w _)) (dv _ _ _)
 have hb0:(0:Int)<=(i:Int)+1:=by omega
 have hic:i<=d:=by omega
 have hjc:i+1<=d:=by omega
 have hkc:k+1<=d:=H;have hc63:d<=9223372036854775807:=by unfold maxLen at D;omega
 have X:Hid (∀x c,(Builtin.append_ #[143,143] x #[M (J ⟨g,0,N⟩) i d,M (J A) (k-i) c]).run Yq.prog w.drew=.ok (M (J ⟨g,0,N⟩) k d) W1):=T;clear z hg Q m j v R y o r p T H D s q hZ h1;go_enter (Yq.nq func92),ntmps92;go_wp2_with fail
 go_region_law (refine ee rfl (.tmp 22) (.tmp 25) 143 143 rfl (M (J ⟨g,0,N⟩) i d) (M (J A) (k-i) (d-(i+1))) (by simp[Act.eval,Act.put]) (by simp[Act.eval,Act.put]) (X.out _ _) ?_)
 go_wp2;go_ret;exact⟨rfl,V,ac⟩
theorem Ee(n g k d i:Nat)(B:List Wx)(w:Wj)(S:w.ownsRow n 62 3 (M (J ⟨g,0,N⟩) (k+1) d) (k+1) B)(hi:i<=k)(hn:k<=2199023255552)(h1:∀u∈B,u.oneCell'=Y):
  Calls Yq.prog 70 #[M (J ⟨g,0,N⟩) (k+1) d,I K i,I K ((i:Int)+1)] w λe w'=>e=.returned (M (J ⟨g,0,N⟩) k d) /\
   w'.ownsRow n 62 3 (M (J ⟨g,0,N⟩) k d) k (B.take (i*3)++B.drop ((i+1)*3))/\w.grownBy w' (J g):=by
 have⟨i0,ad,hz0,G,hz2⟩:=info_parts Yq.infoVer;obtain⟨z,hr⟩:=S;rcases hr with⟨h0,_⟩|⟨g',cap',l,hv,ab,hg,H,D,Q,m⟩
 .cases h0
 cases hv;obtain⟨a,hZ⟩:∃a:List Wx,a=(Value.agg #[I K 0,U ⟨#[]⟩,C Z]).cells.toList:=⟨_,rfl⟩;obtain⟨f,j⟩:∃f,f=B.drop ((i+1)*3):=⟨_,rfl⟩;have v:f.length=(k-i)*3:=by rw[j,lD,z];omega
 obtain⟨A,hA,aa⟩:∃A:Wu,(if d=i+1 then J (⟨g,0,N⟩:Wu)else J ⟨g,(i+1)*3,N⟩)=J A/\Hid (∀t u,f[t]?=J u->w.drew.cell? (A.add t)=J u):=by
  by_cases h:d=i+1
  .refine ⟨⟨g,0,N⟩,by simp[h],λt u L=>?_⟩;have h0:f=[]:=List.eq_nil_of_length_eq_zero (by omega);rw[h0]at L;simp at L
  .refine ⟨⟨g,(i+1)*3,N⟩,by simp[h],λt u L=>?_⟩;rw[Addr.add_lit,j,List.getElem?_drop,<-m,List.getElem?_take]at *;have F:(if(i+1)*3+t<(k+1)*3 then l.toList[(i+1)*3+t]? else N)=J u:=L;split at F
   .show w.cell? _=_;rw[World.cell?];simpa[hg]using F
   .cases F
 have R:l.toList.length=d*3:=by rw[lY,Q]
 obtain⟨C1,y⟩:∃C1,C1=l.toList.take (i*3)++f++l.toList.drop (i*3+f.length):=⟨_,rfl⟩;have o:C1.length=d*3:=by rw[y];simp only[lP,tL,lD,R,v];omega
 obtain⟨W1,r⟩:∃W1,W1=w.drew.setRow g C1.toArray:=⟨_,rfl⟩;have p:W1.heap[g]?=J (E C1.toArray 62 (0,0)):=by rw[r];exact setRow_heap w.drew g l _ _ _ hg
 have T:∀x c,(Builtin.append_ #[96,96] x #[M (J ⟨g,0,N⟩) i d,M (J A) (k-i) c]).run Yq.prog w.drew=.ok (M (J ⟨g,0,N⟩) k d) W1:=λx c=>by
  have:=run_append_room (P:=Yq.prog) w.drew 96 x 62 i0 (Yq.u underlying96) ad g i d l hg A (k-i) c f (by rw[G];exact v) aa.out (λu L=>h1 u (by rw[j]at L;exact List.mem_of_mem_drop L)) (by omega) (by rw[G,v,Q];omega);rw[this,G,r,y,show i+(k-i)=k by omega]
 obtain⟨C2,s⟩:∃C2,C2=C1.take (k*3)++a++C1.drop (k*3+3):=⟨_,rfl⟩;obtain⟨W2,q⟩:∃W2,W2=W1.setRow g C2.toArray:=⟨_,rfl⟩;have hcr:∀x c,(Builtin.clear_ #[96] x #[M (J ⟨g,k*3,N⟩) 1 c]).run Yq.prog W1=.ok (.tuple #[]) W2:=λx c=>by
  rw[q,s,hZ];exact kF W1 96 62 x (Value.agg #[I K 0,U ⟨#[]⟩,C Z]) (Yq.u underlying96) Yq.zeroVer (by simp[Value.cells,Value.oneCell']) g (k*3) c C1.toArray _ p (by simp[Value.cells,o];omega)
 have V:W2.ownsRow n 62 3 (M (J ⟨g,0,N⟩) k d) k (B.take (i*3)++B.drop ((i+1)*3)):=by
  rw[q];refine fd ab (setRow_heap W1 g _ _ _ _ p) (by omega) D ?_ ?_
  .rw [s,hZ];simp only[lZ,lP,tL,lD,o,Value.cells,lC,lN];omega
  .rw [s];exact xC l.toList B C1 a 3 k i d R H hi m (by rw[y,j])
 have ac:w.grownBy W2 (J g):=by
  rw[q];refine cw (b:=W1) ?_ (dv _ _ _);rw[r];exact cw (gB (World.grownBy.refl w _)) (dv _ _ _)
 have hb0:(0:Int)<=(i:Int)+1:=by omega
 have hic:i<=d:=by omega
 have hjc:i+1<=d:=by omega
 have hkc:k+1<=d:=H;have hc63:d<=9223372036854775807:=by unfold maxLen at D;omega
 have X:Hid (∀x c,(Builtin.append_ #[96,96] x #[M (J ⟨g,0,N⟩) i d,M (J A) (k-i) c]).run Yq.prog w.drew=.ok (M (J ⟨g,0,N⟩) k d) W1):=T;clear z hg Q m j v R y o r p T H D s q hZ h1;go_enter (Yq.nq func70),ntmps70;go_wp2_with fail
 go_region_law (refine ee rfl (.tmp 22) (.tmp 25) 96 96 rfl (M (J ⟨g,0,N⟩) i d) (M (J A) (k-i) (d-(i+1))) (by simp[Act.eval,Act.put]) (by simp[Act.eval,Act.put]) (X.out _ _) ?_)
 go_wp2;go_ret;exact⟨rfl,V,ac⟩
def fC(c:Nat)(v:Wx)(i n:Nat)(xs:List Wx)(a b:Wx)(w:Wj)(e:Ending)(w':Wj):Prop:=
 ∃d,e=.returned d/\w'.ownsRow c 177 2 d (n+1) (xs.take (i*2)++[a,b]++xs.drop (i*2))/\w.grownBy w' v.ownBlock/\(d.ownBlock=v.ownBlock\/∀k,d.ownBlock=J k->w.heap.size<=k)
theorem eh{P:Program}(w:Wj){c:Array Oper}{b:List Oper}{a:Act}(d:o.guard=N)(s x:Operand)(t e:Ww)
  (l:o.op=.call {callee:=.builtin .append,args:=#[s,x],argTypes:=#[t,e]}) (f k:Wx) (n:a.eval s=f) (p:a.eval x=k)
  {v:Wx} {i:Wj} (m:(Builtin.append_ #[t,e] o.type #[f,k]).run P w=.ok v i) (h:wpList P c Q b (a.put o.dst v) i):wpList P c Q (o::b) a w:=
 Lib.wpList_append_run w d s x t e l f k n p v i m h
theorem GP (h:Nat)(v:Wx)(n:Nat)(r:List Wx)(m:Nat)(a b:Wx)(w:Wj)(f:w.ownsRow h 177 2 v n r)(hn:n<=1000)
    (S:w.cell? ⟨m,0,N⟩=J a) (L:w.cell? ⟨m,1,N⟩=J b) (h1:a.oneCell'=Y/\b.oneCell'=Y) (x:h<=w.heap.size):
    ∃A z,(∀p,(Builtin.append_ #[143,143] p #[v,M (J ⟨m,0,N⟩) 1 1]).run Yq.prog w=.ok A z)/\fC h v n n r a b w (.returned A) z:=by
  have⟨F,i,l,e,o⟩:=info_parts Yq.infoKid;have c:∀j u,[a,b][j]?=J u->w.cell? ((⟨m,0,N⟩:Wu).add j)=J u:=by
    intro j u q;rw[Addr.add_lit]
    match j,q with
    | 0,q=>simp at q;subst q;exact S
    | 1,q=>simp at q;subst q;exact L
  have s:∀u∈[a,b],u.oneCell'=true:=by intro u hu;simp at hu;rcases hu with rfl|rfl<;>simp[h1]
  have D:=f.1;have hx:r.take (n*2)++[a,b]++r.drop (n*2)=r++[a,b]:=by
    rw[tO (by omega),List.drop_eq_nil_of_le (by omega),List.append_nil]
  have V:=λp=>run_append_own (P:=Yq.prog) w h 143 p 177 F _ 2 16 (Yq.u underlying143) i l e o rfl (by decide) v n r f ⟨m,0,N⟩ 1 1 [a,b] rfl c s (by simp only[maxLen];omega) (by omega) x
  rcases f.2 with⟨rfl,rfl⟩|⟨g,y,R,rfl,hbg,hg,hnc,hcm,X,htake⟩
  . have T:r=[]:=List.eq_nil_of_length_eq_zero (by omega)
    subst T;refine⟨_,_,λp=>run_append_nil (P:=Yq.prog) w 143 p 177 F _ (Yq.u underlying143) i l ⟨m,0,N⟩ 1 1 [a,b] (by rw[e];rfl) c (by omega) (by omega) (by rw[o];omega),_,rfl,?_,?_,?_⟩
    . have⟨A,z,d,G,H,_⟩:=V 0
      rw[run_append_nil (P:=Yq.prog) w 143 0 177 F _ (Yq.u underlying143) i l ⟨m,0,N⟩ 1 1 [a,b] (by rw[e];rfl) c (by omega) (by omega) (by rw[o];omega)]at d;cases d;rw[hx];exact G
    . exact cw (gB (World.grownBy.refl w _)) (World.grownBy_alloc _ _ _)
    . exact Or.inr (λk Q=>by simp[Value.ownBlock]at Q;omega)
  . by_cases t:n+1<=y
    . have B:=λp=>run_append_room (P:=Yq.prog) w 143 p 177 F (Yq.u underlying143) i g n y R hg ⟨m,0,N⟩ 1 1 [a,b] (by rw[e];rfl) c s t (by rw[e,X];simp;omega)
      refine⟨_,_,B,_,rfl,?_,?_,?_⟩
      . have⟨A,z,d,G,H,_⟩:=V 0
        rw[B 0]at d;cases d;rw[hx];exact G
      . exact dv _ _ _
      . exact Or.inl rfl
    . have B := fun p => run_append_grow (P := Yq.prog) w 143 p 177 F _ (Yq.u underlying143) i l ⟨g, 0, none⟩ n y r (by rw [e]; exact D) (fun j u q => by
          have:=f.cells (g:=g) rfl j u q;exact this) ⟨m,0,N⟩ 1 1 [a,b] (by rw[e];rfl) c (by omega) (by omega) (growslice_fits (by omega) (by rw[o];omega))
      refine⟨_,_,B,_,rfl,?_,?_,?_⟩
      . have⟨A,z,d,G,H,_⟩:=V 0
        rw[B 0]at d;cases d;rw[hx];exact G
      . exact cw (gB (World.grownBy.refl w _)) (World.grownBy_alloc _ _ _)
      . exact Or.inr (λk Q=>by simp[Value.ownBlock]at Q;omega)
theorem Ef(d:Nat)(v:Wx)(n:Nat)(o:List Wx)(m:Nat)(a b:Wx)(w:Wj)(e:w.ownsRow d 177 2 v n o)(z:n<=1000)
  (h:w.cell? ⟨m,0,N⟩=J a) (l:w.cell? ⟨m,1,N⟩=J b) (x:a.oneCell'=Y/\b.oneCell'=Y) (f:d<=w.heap.size):
  Calls Yq.prog 93 #[v,I K n,M (J ⟨m,0,N⟩) 1 1] w (fC d v n n o a b w):=by
 have⟨t,s,u,r⟩:=GP d v n o m a b w e z h l x f;obtain⟨p,c,A,k,i⟩:∃p c,v=M p n c/\n<=c/\c<=9223372036854775807:=by
  rcases e.2 with⟨rfl,rfl⟩|⟨g,c,cur,rfl,hbg,hg,k,i,hcs,htake⟩
  .exact ⟨N,0,rfl,lR _,by omega⟩
  .exact ⟨_,c,rfl,k,by unfold maxLen at i;omega⟩
 subst A;have HP:Hid (fC d (M p n c) n n o a b w (.returned t) s):=r;clear r e h l x;have j:Hid (∀y,(Builtin.append_ #[143,143] y #[M p n c,M (J ⟨m,0,N⟩) 1 1]).run Yq.prog w=.ok t s):=u;clear u;by_cases q:c=n
 .subst q;go_enter (Yq.nq func93),ntmps93;go_wp2_with (at_builtin;refine eh _ rfl _ _ 143 143 rfl _ _ rfl rfl (j.out _) ?_)
  go_ret;exact HP.out
 .go_enter (Yq.nq func93),ntmps93;go_wp2_with (at_builtin;refine eh _ rfl _ _ 143 143 rfl _ _ rfl rfl (j.out _) ?_)
  go_ret;exact HP.out
theorem Eg(g b:Nat)(a i:Array Wx)(h:Ww)(o j k l f:Nat)(w:Wj)(c:b≠g)(m:w.heap[g]?=J (E a 177 (0,0)))(n:a.size≠0)(d:w.heap[b]?=J (E i h (0,0))):
  (callFunc 111 #[M (J ⟨b,0,N⟩) j k,M (J ⟨g,o,N⟩) l f]).run Yq.prog w=.ok (.value (C Z)) w:=by
 rw[run_callFunc_extern (Yq.nq func111) (by kernel_rfl) (by kernel_rfl) (by kernel_rfl) (e:=Extern.SlicesOverlaps.overlaps #[143,143] #[4]) (by kernel_rfl),
  Lib.run_overlaps_apart w 143 4 177 (Yq.u underlying143) 2 (λw=>Yq.s (sizeOf177 w)) ⟨b,0,N⟩ ⟨g,o,N⟩ j k l f c h 177 i.size a.size (by simp[World.shape?,d]) (by simp[World.shape?,m]) n (by simp[World.frozen?,d]) (by simp[World.frozen?,d])]
 rfl
theorem Eh{p:Type}(c d C1 C2:List p)(n i e:Nat)(a b:p)(h:c.length=e*2)(hk:n+1<=e)(hi:i<=n)(q:c.take (n*2)=d)
  (j:C1=c.take ((i+1)*2)++d.drop (i*2)++c.drop ((i+1)*2+(d.drop (i*2)).length)) (l:C2=C1.take (i*2)++[a,b]++C1.drop (i*2+2)):
  C2.length=e*2/\C2.take ((n+1)*2)=d.take (i*2)++[a,b]++d.drop (i*2):=by
 have f:d.length=n*2:=by rw[<-q,tL,h];omega
 have o:(d.drop (i*2)).length=(n-i)*2:=by rw[lD,f];omega
 have t:c.take (i*2)=d.take (i*2):=by rw[<-q,List.take_take,Nat.min_eq_left (by omega)]
 have r:(c.take ((i+1)*2)).length=(i+1)*2:=by rw[tL,h];omega
 have m:C1.length=e*2:=by rw[j];simp only[lP,lD,r,h,f];omega
 have s:C1.take (i*2)=d.take (i*2):=by
  rw[j,pA,List.take_append_of_le_length (by omega),List.take_take,Nat.min_eq_left (by omega),t]
 have u:C1.drop (i*2+2)=d.drop (i*2)++c.drop ((i+1)*2+(d.drop (i*2)).length):=by
  rw[j,pA];exact List.drop_left' (by rw[r];omega)
 have k:(d.take (i*2)).length=i*2:=by rw[tL,f];omega
 refine⟨?_,?_⟩
 .rw [l,lP,lP,s,k,lD,m];simp;omega
 .rw [l,s,u,<-pA];exact List.take_left' (by simp only[lP,k,o,lC,lN];omega)
theorem zi(h g n c i:Nat)(Q:List Wx)(q:Nat)(a b:Wx)(w:Wj)(V:w.ownsRow h 177 2 (M (J ⟨g,0,N⟩) n c) n Q)(hn:n<=1000)(hi:i<n)(m:n+1<=c)
  (tv:Ww) (t:w.heap[q]?=J (E #[a,b] tv (0,0))) (X:q≠g) (h1:a.oneCell'=Y/\b.oneCell'=Y) (ab:∀u∈Q,u.oneCell'=Y):
  Calls Yq.prog 93 #[M (J ⟨g,0,N⟩) n c,I K i,M (J ⟨q,0,N⟩) 1 1] w (fC h (M (J ⟨g,0,N⟩) n c) i n Q a b w):=by
 have⟨i0,ac,hz0,aa,hz2⟩:=info_parts Yq.infoKid;obtain⟨D,hr⟩:=V;rcases hr with⟨h0,_⟩|⟨g',cap',e,al,ap,hg,ar,H,R,f⟩
 .cases h0
 cases al;have S:e.toList.length=c*2:=by rw[lY,R]
 obtain⟨cs,d⟩:∃cs,cs=Q.drop (i*2):=⟨_,rfl⟩;have s:cs.length=(n-i)*2:=by rw[d,lD,D];omega
 obtain⟨C1,x⟩:∃C1,C1=e.toList.take ((i+1)*2)++cs++e.toList.drop ((i+1)*2+cs.length):=⟨_,rfl⟩;obtain⟨C2,L⟩:∃C2,C2=C1.take (i*2)++[a,b]++C1.drop (i*2+2):=⟨_,rfl⟩;have⟨A,G⟩:=Eh e.toList Q C1 C2 n i c a b S m (by omega) f (by rw[x,d]) L;have B:C1.length=c*2:=by rw[x];simp only[lP,tL,lD,S,s];omega
 obtain⟨W1,l⟩:∃W1,W1=w.drew.setRow g C1.toArray:=⟨_,rfl⟩;obtain⟨W2,r⟩:∃W2,W2=W1.setRow g C2.toArray:=⟨_,rfl⟩;have o:W1.heap[g]?=J (E C1.toArray 177 (0,0)):=by rw[l];exact setRow_heap w.drew g e _ _ _ hg
 have af:∀lb cb,(callFunc 111 #[M (J ⟨q,0,N⟩) 1 1,M (J ⟨g,(i+1)*2,N⟩) lb cb]).run Yq.prog w=.ok (.value (C Z)) w:=λlb cb=>
  Eg g q e _ tv ((i+1)*2) 1 1 lb cb w X hg (by omega) t
 have z:∀p k sc,(Builtin.copy_ #[143,143] p #[M (J ⟨g,(i+1)*2,N⟩) (n-i) k,M (J ⟨g,i*2,N⟩) (n+1-i) sc]).run Yq.prog w.drew=.ok (goInt ((n-i:Nat):Int)) W1:=λp k sc=>by
  have hm:Nat.min (n+1-i) (n-i)=n-i:=Nat.min_eq_right (by omega);rw[fc (P:=Yq.prog) w.drew 143 143 p 177 i0 g ((i+1)*2) (n-i) k ⟨g,i*2,N⟩ (n+1-i) sc e 177 cs (Yq.u underlying143) ac hg (by rw[hm,aa,s])
   (λj v T=>by
    rw[Addr.add_lit];rw[d,List.getElem?_drop,<-f,List.getElem?_take]at T;split at T
    .show w.cell? _=_;rw[World.cell?];simpa[hg]using T
    .cases T)
   (by rw[s,R];omega) (λv t=>ab v (by rw[d]at t;exact List.mem_of_mem_drop t)),l,x,hm]
 have y:∀p k,(Builtin.copy_ #[143,143] p #[M (J ⟨g,i*2,N⟩) (n+1-i) k,M (J ⟨q,0,N⟩) 1 1]).run Yq.prog W1=.ok (goInt 1) W2:=λp k=>by
  have hm:Nat.min 1 (n+1-i)=1:=Nat.min_eq_left (by omega);have ad:W1.heap[q]?=J (E #[a,b] tv (0,0)):=by rw[l,setRow_other w.drew g q _ X];exact t
  rw[fc (P:=Yq.prog) W1 143 143 p 177 i0 g (i*2) (n+1-i) k ⟨q,0,N⟩ 1 1 C1.toArray 177 [a,b] (Yq.u underlying143) ac o (by rw[hm,aa];rfl)
   (λj v T=>by
    rw[Addr.add_lit,World.cell?];simpa[ad]using T)
   (by simp[B];omega) (λv t=>by simp at t;rcases t with rfl|rfl<;>simp[h1]),r,L,hm]
  rfl
 have F:fC h (M (J ⟨g,0,N⟩) n c) i n Q a b w (.returned (M (J ⟨g,0,N⟩) (n+1) c)) W2:=by
  refine⟨_,rfl,?_,?_,Or.inl rfl⟩
  .rw [r];exact fd ap (setRow_heap W1 g _ _ _ _ o) m H (by simp[A]) (by simpa using G)
  .rw [r];refine cw (b:=W1) ?_ (dv _ _ _);rw[l];exact cw (gB (World.grownBy.refl w _)) (dv _ _ _)
 have HP:Hid (fC h (M (J ⟨g,0,N⟩) n c) i n Q a b w (.returned (M (J ⟨g,0,N⟩) (n+1) c)) W2):=F;have h63:c<=9223372036854775807:=by unfold maxLen at H;omega
 have hz2':¬((i:Int)=(n:Int)):=by omega
 have hc1:¬c=i:=by omega
 have hc2:¬c=i+1:=by omega
 have H1:Hid (∀p k sc,(Builtin.copy_ #[143,143] p #[M (J ⟨g,(i+1)*2,N⟩) (n-i) k,M (J ⟨g,i*2,N⟩) (n+1-i) sc]).run Yq.prog w.drew=.ok (goInt ((n-i:Nat):Int)) W1):=z;have H2:Hid (∀p k,(Builtin.copy_ #[143,143] p #[M (J ⟨g,i*2,N⟩) (n+1-i) k,M (J ⟨q,0,N⟩) 1 1]).run Yq.prog W1=.ok (goInt 1) W2):=y;have hw1:IntKind.i64.wrap ((i:Int)+1)=(i:Int)+1:=by rw[IntKind.wrap_i64];omega
 have hb0:(0:Int)<=(i:Int)+1:=by omega
 have htn:((i:Int)+1).toNat=i+1:=by omega
 have hb3:(i:Int)<=(n:Int)+1:=by omega
 have hb4:(i:Int)<=(n:Int):=by omega
 have hin:i<=n:=by omega
 clear D hg R f S d s x L A G B l r o z y F t h1 ab ar H;go_enter (Yq.nq func93),ntmps93;go_wp2_with (simp only[af])
 go_region_law (refine kG rfl _ _ 143 143 rfl (M (J ⟨g,(i+1)*2,N⟩) (n-i) (c-(i+1))) (M (J ⟨g,i*2,N⟩) (n+1-i) (c-i)) (by simp[Act.eval,Act.put]) (by simp[Act.eval,Act.put]) (H1.out _ _ _) ?_)
 have h2:=H2.out;go_wp2;go_ret;exact HP.out
theorem Bz(l g n c i:Nat)(p:List Wx)(vb:Nat)(a b:Wx)(w:Wj)(a4:w.ownsRow l 177 2 (M (J ⟨g,0,N⟩) n c) n p)(hn:n<=1000)(hi:i<n)(hroom:c<n+1)
  (tv:Ww) (L:w.heap[vb]?=J (E #[a,b] tv (0,0))) (h1:a.oneCell'=Y/\b.oneCell'=Y) (a6:∀u∈p,u.oneCell'=Y) (av:l<=w.heap.size):
  Calls Yq.prog 93 #[M (J ⟨g,0,N⟩) n c,I K i,M (J ⟨vb,0,N⟩) 1 1] w (fC l (M (J ⟨g,0,N⟩) n c) i n p a b w):=by
 have⟨i0,ar,bd,a0,a3⟩:=info_parts Yq.infoKid;obtain⟨o,hr⟩:=a4;rcases hr with⟨h0,_⟩|⟨g',cap',cur,bi,hbg,hg,a9,a7,bn,z⟩
 .cases h0
 cases bi;have a8:c=n:=by omega
 subst a8;have bb:g<w.heap.size:=(eS hg).1;have be:vb<w.heap.size:=(eS L).1;have q:∀j u,p[j]?=J u->w.cell? ⟨g,j,N⟩=J u:=λj u s=>by
  rw[<-z,List.getElem?_take]at s;split at s
  .rw [World.cell?];simpa[hg]using s
  .cases s
 have ad:(Builtin.firstCells i0.size i (M (J ⟨g,0,N⟩) i c)).run Yq.prog w.drew=.ok (p.take (i*2)).toArray w.drew:=by
  rw[a0];exact run_firstCells_some w.drew 2 i ⟨g,0,N⟩ i c (p.take (i*2)) (by rw[tL,o];omega) (λj v s=>by
   rw[Addr.add_lit,zA];rw[List.getElem?_take]at s;split at s
   .exact q j v s
   .cases s)
 have a2:(c:Int)+1-(i:Int)=((c+1-i:Nat):Int):=by omega
 have a1:i+(c+1-i)=c+1:=by omega
 obtain⟨G,hG⟩:∃G,G=grownCap w (c+1) c 177:=⟨_,rfl⟩;obtain⟨Z1,ap⟩:∃Z1,Z1=(Builtin.zeroCells (Value.agg #[I .u8 0,O N]).cells (c+1-i)):=⟨_,rfl⟩;obtain⟨Z2,al⟩:∃Z2,Z2=(Builtin.zeroCells (Value.agg #[I .u8 0,O N]).cells (G-(c+1))):=⟨_,rfl⟩;have ab:Z1.size=(c+1-i)*2:=by rw[ap,size_zeroCells];rfl
 have V:Z2.size=(G-(c+1))*2:=by rw[al,size_zeroCells];rfl
 obtain⟨ROW,x⟩:∃ROW:Array Wx,ROW=(p.take (i*2)).toArray++Z1++Z2:=⟨_,rfl⟩;have bl:c+1<=G:=by rw[hG];exact grownCap_ge w _ _ _
 have D:G<=maxLen:=by rw[hG];exact grownCap_le_maxLen w (c+1) c 177 (by simp only[maxLen];omega)
 have af:ROW.size=G*2:=by
  rw[x];simp only[Array.size_append,lZ,tL,o,ab,V];omega
 obtain⟨W0,m⟩:∃W0,W0=w.drew.alloc (E ROW 177):=⟨_,rfl⟩;have a5:∀r,(Builtin.append_ #[143,3] r #[M (J ⟨g,0,N⟩) i c,I K ((c:Int)+1-(i:Int))]).run Yq.prog w =
   .ok (M (J ⟨w.heap.size,0,N⟩) (c+1) G) W0:=λr=>by
  have h:=Lib.run_append_grow_zeros (P:=Yq.prog) w 143 3 r 177 i0 _ K K (Yq.u underlying143) (Yq.u underlying3) ar bd (J ⟨g,0,N⟩) i c (p.take (i*2)) ad (c+1-i) (by omega) (by omega) (by omega) (by omega) (by rw[a3];omega) (by rw[a3,a1];exact growslice_fits (by omega) (by omega));rw[a1]at h;rw[a2,h,m,x,ap,al,hG]
 have y:W0.heap[w.heap.size]?=J (E ROW 177 (0,0)):=by rw[m];exact heap_alloc_new w.drew _
 obtain⟨C1,S⟩:∃C1,C1=ROW.toList.take (i*2)++[a,b]++ROW.toList.drop (i*2+2):=⟨_,rfl⟩;have B:C1.length=G*2:=by rw[S];simp only[lP,tL,lD,lY,af,lC,lN];omega
 obtain⟨cs,d⟩:∃cs,cs=p.drop (i*2):=⟨_,rfl⟩;have F:cs.length=(c-i)*2:=by rw[d,lD,o];omega
 obtain⟨C2,Q⟩:∃C2,C2=C1.take ((i+1)*2)++cs++C1.drop ((i+1)*2+cs.length):=⟨_,rfl⟩;have ac:C2.length=G*2:=by rw[Q];simp only[lP,tL,lD,B,F];omega
 have R:(p.take (i*2)).length=i*2:=by rw[tL,o];omega
 have aa:C2.take ((c+1)*2)=p.take (i*2)++[a,b]++p.drop (i*2):=by
  have e0:ROW.toList.take (i*2)=p.take (i*2):=by
   rw[x];simp only[Array.toList_append,pA];exact List.take_left' R
  have e1:C1.take ((i+1)*2)=p.take (i*2)++[a,b]:=by
   rw[S,e0];exact List.take_left' (by simp only[lP,R,lC,lN];omega)
  rw[Q,e1,d];exact List.take_left' (by rw[<-d];simp only[lP,R,F,lC,lN];omega)
 obtain⟨W1,e⟩:∃W1,W1=W0.setRow w.heap.size C1.toArray:=⟨_,rfl⟩;have A:W1.heap[w.heap.size]?=J (E C1.toArray 177 (0,0)):=by rw[e];exact setRow_heap W0 _ _ _ _ _ y
 obtain⟨W2,f⟩:∃W2,W2=W1.drew.setRow w.heap.size C2.toArray:=⟨_,rfl⟩;have t:∀k,k<w.heap.size->W0.heap[k]?=w.heap[k]?:=λk hk=>by rw[m];exact bA w.drew _ k hk
 have hcp1:∀r H,(Builtin.copy_ #[143,143] r #[M (J ⟨w.heap.size,i*2,N⟩) (c+1-i) H,M (J ⟨vb,0,N⟩) 1 1]).run Yq.prog W0=.ok (goInt 1) W1:=λr H=>by
  have hm:Nat.min 1 (c+1-i)=1:=Nat.min_eq_left (by omega);rw[fc (P:=Yq.prog) W0 143 143 r 177 i0 w.heap.size (i*2) (c+1-i) H ⟨vb,0,N⟩ 1 1 ROW 177 [a,b] (Yq.u underlying143) ar y (by rw[hm,a0];rfl)
   (λj v s=>by
    have:=t vb be;rw[Addr.add_lit,World.cell?];simpa[this,L]using s)
   (by rw[af];simp;omega) (λv L=>by simp at L;rcases L with rfl|rfl<;>simp[h1]),e,S,hm]
  rfl
 have T:∀r H sc,(Builtin.copy_ #[143,143] r #[M (J ⟨w.heap.size,(i+1)*2,N⟩) (c-i) H,M (J ⟨g,i*2,N⟩) (c-i) sc]).run Yq.prog W1.drew=.ok (goInt ((c-i:Nat):Int)) W2:=λr H sc=>by
  have hm:Nat.min (c-i) (c-i)=c-i:=Nat.min_self _;rw[fc (P:=Yq.prog) W1.drew 143 143 r 177 i0 w.heap.size ((i+1)*2) (c-i) H ⟨g,i*2,N⟩ (c-i) sc C1.toArray 177 cs (Yq.u underlying143) ar A (by rw[hm,a0,F])
   (λj v s=>by
    rw[Addr.add_lit];rw[d,List.getElem?_drop]at s;have hb:W1.heap[g]?=w.heap[g]?:=by rw[e,setRow_other W0 _ g _ (by omega)];exact t g bb
    show W1.cell? _=_;rw[cB (w:=w) (w':=W1) (a:=⟨g,i*2+j,N⟩) hb];exact q _ v s)
   (by rw[F];simp[B];omega) (λv L=>a6 v (by rw[d]at L;exact List.mem_of_mem_drop L)),f,Q,hm]
 have X:fC l (M (J ⟨g,0,N⟩) c c) i c p a b w (.returned (M (J ⟨w.heap.size,0,N⟩) (c+1) G)) W2:=by
  refine⟨_,rfl,?_,?_,Or.inr (λk hk=>by simp[Value.ownBlock]at hk;omega)⟩
  .rw [f];exact fd av (setRow_heap W1.drew _ _ _ _ _ A) bl D (by simp[ac]) (by simpa using aa)
  .have bk:w.heap.size<=W0.heap.size:=by rw[m];simp
   refine⟨by rw[f,e,m];rfl,by rw[f,e,m];rfl,by rw[f,e,m];rfl,by rw[f,e];simpa using bk,λk hk _=>?_⟩;rw[f,setRow_other _ _ k _ (by omega)];show W1.heap[k]?=_;rw[e,setRow_other _ _ k _ (by omega)];exact t k hk
 have HP:Hid (fC l (M (J ⟨g,0,N⟩) c c) i c p a b w (.returned (M (J ⟨w.heap.size,0,N⟩) (c+1) G)) W2):=X;have hz2':¬((i:Int)=(c:Int)):=by omega
 have hc1:¬c=i:=by omega
 have hc2:¬G=i:=by omega
 have hc3:¬G=i+1:=by omega
 have hG63':G<=9223372036854775807:=by unfold maxLen at D;omega
 have H2:Hid (∀r H sc,(Builtin.copy_ #[143,143] r #[M (J ⟨w.heap.size,(i+1)*2,N⟩) (c-i) H,M (J ⟨g,i*2,N⟩) (c-i) sc]).run Yq.prog W1.drew=.ok (goInt ((c-i:Nat):Int)) W2):=T;have HR:Hid (∀r,(Builtin.append_ #[143,3] r #[M (J ⟨g,0,N⟩) i c,I K ((c:Int)+1-(i:Int))]).run Yq.prog w=.ok (M (J ⟨w.heap.size,0,N⟩) (c+1) G) W0):=a5;have hw1:IntKind.i64.wrap ((i:Int)+1)=(i:Int)+1:=by rw[IntKind.wrap_i64];omega
 have hb0:(0:Int)<=(i:Int)+1:=by omega
 have htn:((i:Int)+1).toNat=i+1:=by omega
 have hb3:(i:Int)<=(c:Int)+1:=by omega
 have hb4:(i:Int)<=(c:Int):=by omega
 have hin:i<=c:=by omega
 clear o hg bn z d F S Q ac aa B m e f y A T X L h1 a6 a9 a7 ad a2 a1 hG ap al ab V x af R t q a5 D;go_enter (Yq.nq func93),ntmps93;go_wp2_with (at_builtin;refine eh _ rfl _ _ 143 3 rfl _ _ rfl rfl (HR.out _) ?_)
 go_region_law (refine kG rfl _ _ 143 143 rfl (M (J ⟨w.heap.size,(i+1)*2,N⟩) (c-i) (G-(i+1))) (M (J ⟨g,i*2,N⟩) (c-i) (c-i)) (by simp[Act.eval,Act.put]) (by simp[Act.eval,Act.put]) (H2.out _ _ _) ?_)
 go_wp2;go_ret;exact HP.out
theorem Ei(c:Nat)(v:Wx)(n i:Nat)(l:List Wx)(h:Nat)(a b:Wx)(w:Wj)(d:w.ownsRow c 177 2 v n l)(x:n<=1000)(hi:i<=n)
  (q:Ww) (p:w.heap[h]?=J (E #[a,b] q (0,0))) (s:v.ownBlock≠J h) (t:a.oneCell'=Y/\b.oneCell'=Y) (o:∀u∈l,u.oneCell'=Y) (f:c<=w.heap.size):
  Calls Yq.prog 93 #[v,I K i,M (J ⟨h,0,N⟩) 1 1] w (fC c v i n l a b w):=by
 by_cases r:i=n
 .subst r;exact Ef c v i l h a b w d x (by simp[World.cell?,p]) (by simp[World.cell?,p]) t f
 .rcases d.2 with⟨rfl,rfl⟩|⟨g,j,cur,rfl,hbg,hg,hnc,hcm,hcs,htake⟩
  .omega
  .have m:h≠g:=λe=>s (by simp[Value.ownBlock,e])
   by_cases k:n+1<=j
   .exact zi c g n j i l h a b w d x (by omega) k q p m t o
   .exact Bz c g n j i l h a b w d x (by omega) (by omega) q p t o f
theorem az{p:Ww}{v:Wx}{f:List Wx}(h:w.ownsRow d p r v n f):∃a b,v=M a n b/\(a=N->b=0):=by
 rcases h.2 with⟨rfl,rfl⟩|⟨g,b,cur,rfl,_⟩
 .exact ⟨N,0,rfl,λ_=>rfl⟩
 .exact ⟨_,b,rfl,λh=>by cases h⟩
structure Made (A:Nat->Prop)(n:Nat)(w w':Wj)(f:List UInt8->List Ver)(g:Nat)(hv kv:Wx)(ks:List (UInt8×Option Wu)):Prop where
 below:Below w.heap.size w w'
 node:w'.ownsRow w.heap.size 145 3 (M (J ⟨g,0,N⟩) 1 1) 1 [C (!(f []).isEmpty),hv,kv]
 kids:w'.ownsRow w.heap.size 177 2 kv ks.length (aC ks)
 apart:kv.ownBlock≠J g
 hist:bm A w hv (f [])
 sorted:ks.Pairwise (λa b=>a.1<b.1)
 child:∀c q,(c,q)∈ks->am A n w q (λk=>f (c::k))
 noKid:∀c,(∀q,(c,q) ∉ ks)->∀k,f (c::k)=[]
 noNil:∀c q,(c,q)∈ks->q≠N
theorem BA(w:Wj):Calls Yq.prog 89 #[O N] w λe a=>e=.returned (O (J ⟨w.heap.size,0,N⟩))/\a=w.alloc (E #[C Z,M N 0 0,M N 0 0] 145):=by
 go_enter (Yq.nq func89),ntmps89;go_wp2;go_ret;exact⟨rfl,rfl⟩
theorem zk(A:Nat->Prop)(g:Nat)(d:Bool)(t:Option Wu)(r u:Nat)(k:Option Wu)(n l:Nat)(f:List (UInt8×Option Wu))(w:Wj)
  (D:w.cell? ⟨g,0,N⟩=J (C d)) (F:w.cell? ⟨g,1,N⟩=J (M t r u)) (y:w.cell? ⟨g,2,N⟩=J (M k n l)) (x:gz A w (M k n l) f) (z:f.length<=256):
  Calls Yq.prog 89 #[O (J ⟨g,0,N⟩)] w λe a=>∃o p v q,e=.returned (O (J ⟨o.heap.size,0,N⟩))/\o.ownsRow w.heap.size 177 2 (M p v q) f.length (aC f)/\Below w.heap.size w o /\
   a=o.alloc (E #[C d,M t r u,M p v q] 145):=by
 have m:∀c:Wj,c.heap=w.heap->Calls Yq.prog 107 #[M k n l] c λe a=>∃i,e=.returned i/\a.ownsRow c.heap.size 177 2 i f.length (aC f)/\Below c.heap.size c a:=λc B=>
  zh A _ f c (x.keep (λb j _=>⟨j,by rw[B]⟩)) z
 have s:Hid (∀c:Wj,c.heap=w.heap->Calls Yq.prog 107 #[M k n l] c λe a=>∃i,e=.returned i/\a.ownsRow c.heap.size 177 2 i f.length (aC f)/\Below c.heap.size c a):=m;clear m x;go_enter (Yq.nq func89),ntmps89;go_wp2_with fail
 go_region_held3 (λa=>a.cell? ⟨g,0,N⟩=J (C d)/\a.cell? ⟨g,1,N⟩=J (M t r u)/\a.cell? ⟨g,2,N⟩=J (M k n l)) (go_keep)
  (first|(go_at_call 107;refine(s.out _ ?_).mono ?_;rfl;rintro e a ⟨i,rfl,h,j⟩;obtain⟨p,q,rfl,-⟩:=az h;have k0:=ah (W:=w.drew) j D;have k1:=ah (W:=w.drew) j F;have k2:=ah (W:=w.drew) j y))
 go_wp2;go_ret;exact⟨a,p,_,q,rfl,h,(bR _ w).drew.trans j,rfl⟩
theorem te(w:Wj)(a:Nat)(x y z:Wx)(b:a<=w.heap.size):(w.alloc (E #[x,y,z] 145)).ownsRow a 145 3 (M (J ⟨w.heap.size,0,N⟩) 1 1) 1 [x,y,z]:=
 World.ownsRow_lit w #[x,y,z] 1 b (by simp only[maxLen];omega) rfl
theorem kH(A:Nat->Prop)(n:Nat)(p:Option Wu)(f:List UInt8->List Ver)(w:Wj)(h:am A (n+1) w p f):
  Calls Yq.prog 89 #[O p] w λe l=>∃g y x i,e=.returned (O (J ⟨g,0,N⟩))/\Made A n w l f g y x i:=by
 rcases h with⟨rfl,h⟩|⟨g,y,x,i,B,hA,H,P,D,u,j,v,m,b⟩
 .refine (BA w).mono ?_;rintro e l ⟨rfl,rfl⟩;refine⟨w.heap.size,M N 0 0,M N 0 0,[],rfl,(bR _ _).alloc (lR _) _,?_,World.ownsRow_nil _ _ _ _,by simp[Value.ownBlock],by rw[h];exact nB A w,List.Pairwise.nil,λc q r=>absurd r List.not_mem_nil,λc _ k=>h _,λc q r=>absurd r List.not_mem_nil⟩;rw[h];exact te w _ _ _ _ (lR _)
 .cases B;have s:=u;have d:=j;obtain⟨G,L,rfl,-⟩:=s;obtain⟨z,F,rfl,-⟩:=d;refine(zk A g _ G _ L z _ F i w H P D j (lJ i v)).mono ?_;rintro e l ⟨t,va,vl,vc,rfl,a,o,rfl⟩;refine⟨t.heap.size,_,_,i,rfl,o.alloc o.size _,te t _ _ _ _ o.size,a.alloc _,?_,u,v,m,b.1,b.2⟩;intro e;have:=(a.lt _ e).2;omega
def orP(a:Bool)(b g:Nat):Option Wu:=if a=Z/\b=0 then N else J ⟨g,0,N⟩
theorem oz(g:Nat)(a:Bool)(f:Option Wu)(b d:Nat)(w:Wj)(hkl:b<=1000)
  (c0:w.cell? ⟨g,0,N⟩=J (C a)) (c2:w.cell? ⟨g,2,N⟩=J (M f b d)):
  Calls Yq.prog 90 #[O (J ⟨g,0,N⟩)] w λe h=>e=.returned (O (orP a b g))/\h=w:=by
 cases a with
 |true=>
  go_enter (Yq.nq func90),ntmps90;go_wp2;go_ret;exact⟨by simp[orP],rfl⟩
 |false=>
  by_cases c:b=0
  .subst c;go_enter (Yq.nq func90),ntmps90;go_wp2;go_ret;exact⟨by simp[orP],rfl⟩
  .have h0':((b:Int)==0)=false:=by simp;omega
   go_enter (Yq.nq func90),ntmps90;go_wp2;go_ret;exact⟨by simp[orP,c],rfl⟩
theorem gC{o:Type}(m:Nat)(g:o->List Wx)(b:∀a,(g a).length=m)(l:List o)(i:Nat):(l.flatMap g).take (i*m)=(l.take i).flatMap g:=by
 induction l generalizing i with
 |nil=>simp
 |cons a l ih=>
  cases i with
  |zero=>simp
  |succ i=>
   rw[List.flatMap_cons,List.take_succ_cons,List.flatMap_cons,List.take_append,b];have e:(i+1)*m-m=i*m:=by rw[Nat.add_mul,Nat.one_mul];omega
   rw[e,ih,tO (by rw[b,Nat.add_mul,Nat.one_mul];omega)]
theorem gE{o:Type}(m:Nat)(g:o->List Wx)(b:∀a,(g a).length=m)(l:List o)(i:Nat):(l.flatMap g).drop (i*m)=(l.drop i).flatMap g:=by
 induction l generalizing i with
 |nil=>simp
 |cons a l ih=>
  cases i with
  |zero=>simp
  |succ i=>
   rw[List.flatMap_cons,List.drop_succ_cons,List.drop_append,b];have e:(i+1)*m-m=i*m:=by rw[Nat.add_mul,Nat.one_mul];omega
   rw[e,ih,List.drop_eq_nil_of_le (by rw[b,Nat.add_mul,Nat.one_mul];omega),List.nil_append]
theorem th(a:List (UInt8×Option Wu))(r:Nat)(c:UInt8)(q:Option Wu):
  (aC a).take (r*2)++[I .u8 (c.toNat:Int),O q]++(aC a).drop (r*2)=aC (a.take r++(c,q)::a.drop r):=by
 unfold aC;rw[gC 2 _ (λ_=>rfl),gE 2 _ (λ_=>rfl)];simp
theorem ti(a:List (UInt8×Option Wu))(r:Nat):(aC a).take (r*2)++(aC a).drop ((r+1)*2)=aC (a.take r++a.drop (r+1)):=by
 unfold aC;rw[gC 2 _ (λ_=>rfl),gE 2 _ (λ_=>rfl)];simp
theorem tq(h:List Ver)(r:Nat):(aq h).take (r*3)++(aq h).drop ((r+1)*3)=aq (h.take r++h.drop (r+1)):=by
 unfold aq;rw[gC 3 _ (λ_=>rfl),gE 3 _ (λ_=>rfl)];simp
theorem tu(a:List (UInt8×Option Wu))(r:Nat)(c:UInt8)(q:Option Wu)(hr:r<a.length)(e:a[r].1=c):(aC a).set (r*2+1) (O q)=aC (a.take r++(c,q)::a.drop (r+1)):=by
 have b:a=a.take r++a[r]::a.drop (r+1):=by rw[List.getElem_cons_drop,List.take_append_drop]
 have f:(aC (a.take r)).length=r*2:=by rw[eJ,tL,Nat.min_eq_left (by omega)]
 have h:aC a=aC (a.take r)++(I .u8 (c.toNat:Int) :: O a[r].2::aC (a.drop (r+1))):=by
  have i:∀ (A B:List (UInt8×Option Wu)) (x:UInt8×Option Wu),aC (A++x::B)=aC A++(I .u8 (x.1.toNat:Int) :: O x.2::aC B):=λA B x=>by simp[aC]
  conv=>lhs;rw[b]
  rw[i,e]
 have d:aC (a.take r++(c,q)::a.drop (r+1))=aC (a.take r)++(I .u8 (c.toNat:Int) :: O q::aC (a.drop (r+1))):=by simp[aC]
 rw[h,d,List.set_append_right _ _ (by omega),f];have:r*2+1-r*2=1:=by omega
 rw[this];rfl
def aO(ks:List (UInt8×Option Wu))(r:Nat)(c:UInt8)(q:Option Wu)(d:Nat):List (UInt8×Option Wu):=ks.take r++(c,q)::ks.drop (r+d)
theorem g9{c:UInt8}(o:k.Pairwise (λa b=>a.1<b.1))(p:Place k c r)(q:Option Wu)(d:Nat)(z:d=if nA k c r then 1 else 0):(aO k r c q d).Pairwise (λa b=>a.1<b.1):=by
 unfold aO;rw[List.pairwise_append];have n:∀x∈k.take r,x.1<c:=by
  intro x f;have⟨j,s,e⟩:=gM f;rw[tL]at s;rw[List.getElem_take]at e;rw[<-e];exact p.lo j (by omega) (by omega)
 have m:∀x∈k.drop (r+d),c<x.1:=by
  intro x f;have⟨j,s,e⟩:=gM f;rw[lD]at s;rw[List.getElem_drop]at e;have u:=p.hi (r+d+j) (by omega) (by omega);rw[e]at u;by_cases i:c=x.1
  .exfalso;cases l:nA k c r with
   |true=>
    rw[l]at z;have⟨hr,v⟩:=Place.mem l;have A:=jR o r (r+d+j) (by simp at z;omega) (by omega);rw[v,e,i]at A;omega
   |false=>
    have:=p.nomem o l x.2;rw[i]at this;exact this (List.mem_of_mem_drop f)
  .have:=UInt8.le_iff_toNat_le.1 u;have hn:c.toNat≠x.1.toNat:=λh=>i (UInt8.toNat_inj.1 h)
   exact UInt8.lt_iff_toNat_lt.2 (by omega)
 refine⟨o.sublist (List.take_sublist _ _),?_,?_⟩
 .rw [List.pairwise_cons];exact⟨λx f=>m x f,o.sublist (List.drop_sublist _ _)⟩
 .intro x f y t;rcases List.mem_cons.1 t with rfl|t
  .exact n x f
  .have u:=UInt8.lt_iff_toNat_lt.1 (n x f);have A:=UInt8.lt_iff_toNat_lt.1 (m y t);exact UInt8.lt_iff_toNat_lt.2 (by omega)
theorem vN(l:k.Pairwise (λa b=>a.1<b.1)){c:UInt8}{q':Option Wu}(m:(c,q')∈k)(n:(c,q)∈k):q'=q:=by
 have⟨i,r,f⟩:=gM m;have⟨j,o,e⟩:=gM n;by_cases d:i=j
 .subst d;rw[f]at e;cases e;rfl
 .rcases Nat.lt_or_gt_of_ne d with h|h
  .have:=jR l i j h o;rw[f,e]at this;simp at this
  .have:=jR l j i h r;rw[f,e]at this;simp at this
theorem pQ{e:List (UInt8×Option Wu)}{c:UInt8}(m:e.Pairwise (λa b=>a.1<b.1))(l:Place e c r)(q:Option Wu)(d:Nat)(k:d=if nA e c r then 1 else 0)(f:UInt8)(x:Option Wu)
  (i:(f,x)∈aO e r c q d):(f=c/\x=q)\/(f≠c/\(f,x)∈e):=by
 by_cases j:f=c
 .subst j;exact Or.inl ⟨rfl,vN (g9 m l q d k) i (by unfold aO;simp)⟩
 .refine Or.inr ⟨j,?_⟩;unfold aO at i;rcases List.mem_append.1 i with h|h
  .exact List.mem_of_mem_take h
  .rcases List.mem_cons.1 h with h|h
   .cases h;exact absurd rfl j
   .exact List.mem_of_mem_drop h
theorem tw{f:List (UInt8×Option Wu)}{c:UInt8}(_hs:f.Pairwise (λa b=>a.1<b.1))(q:Option Wu)(d:Nat)(k:d=if nA f c r then 1 else 0)(l:UInt8)
  (n:∀x,(l,x) ∉ aO f r c q d):l≠c/\∀x,(l,x) ∉ f:=by
 have o:l≠c:=λe=>n q (by subst e;unfold aO;simp)
 refine⟨o,λx m=>n x ?_⟩;unfold aO;cases i:nA f c r with
 |false=>
  rw[i]at k;have:d=0:=by simpa using k
  subst this;rw[Nat.add_zero,List.mem_append,List.mem_cons];rw[<-List.take_append_drop r f,List.mem_append]at m;exact m.imp id Or.inr
 |true=>
  rw[i]at k;have:d=1:=by simpa using k
  subst this;have⟨hr,j⟩:=Place.mem i;have p:f=f.take r++f[r]::f.drop (r+1):=by rw[List.getElem_cons_drop,List.take_append_drop]
  rw[p,List.mem_append,List.mem_cons]at m;rw[List.mem_append,List.mem_cons];rcases m with h|h|h
  .exact Or.inl h
  .rw [<-h]at j;exact absurd j o
  .exact Or.inr (Or.inr h)
def upd(f:List UInt8->List Ver)(key:List UInt8)(h:List Ver):List UInt8->List Ver:=λk=>if k=key then h else f k
theorem xD(a:ByteArray)(h:0<a.size):a.data.toList=a[0]::(a.extract 1 a.size).data.toList:=by
 have e:(a.extract 1 a.size).data.toList=a.data.toList.drop 1:=by
  simp;exact tO (by simp)
 rw[e];have b:0<a.data.toList.length:=by simpa using h
 exact(List.getElem_cons_drop b).symm
theorem dw{v:Wx}(i:n=ks.length)(h:w.ownsRow r 177 2 v n (aC ks))(f:∀k,v.ownBlock=J k->A k):gz A w v ks:=by
 subst i;rcases h.2 with⟨rfl,e⟩|⟨g,b,cur,rfl,hbg,d,hnc,hcm,hcs,htake⟩
 .have:ks=[]:=List.length_eq_zero_iff.1 e;subst this;exact⟨N,0,rfl,λ_=>rfl,λh=>absurd rfl h⟩
 .refine ⟨_,b,rfl,(λh=>by cases h),λ_=>⟨g,rfl,f g rfl,(eS d).1,λj c=>?_⟩⟩;rw[eJ]at c;exact h.cellAt j c
theorem mK{v:Wx}{h:List Ver}(l:n=h.length)(c:w.ownsRow r 62 3 v n (aq h))(e:∀k,v.ownBlock=J k->A k):bm A w v h:=by
 subst l;rcases c.2 with⟨rfl,f⟩|⟨g,b,cur,rfl,hbg,i,hnc,hcm,hcs,htake⟩
 .have:h=[]:=List.length_eq_zero_iff.1 f;subst this;exact⟨N,0,rfl,λ_=>rfl,λh=>absurd rfl h⟩
 .refine ⟨_,b,rfl,(λh=>by cases h),λ_=>⟨g,rfl,e g rfl,(eS i).1,λj d=>?_⟩⟩;rw[fP]at d;exact c.cellAt j d
theorem ci{v z:Wx}(h:w.ownsRow n 145 3 (M (J ⟨g,0,N⟩) 1 1) 1 [v,l,z]):
  (w.cell? ⟨g,0,N⟩=J v/\w.cell? ⟨g,1,N⟩=J l/\w.cell? ⟨g,2,N⟩=J z)/\∀j,w.frozen? ⟨g,j,N⟩=false:=
 ⟨⟨h.cellAt 0 (by omega),h.cellAt 1 (by omega),h.cellAt 2 (by omega)⟩,λj=>h.frozenAt j⟩
def Grow(A:Nat->Prop)(w:Wj):Nat->Prop:=λb=>(A b/\b<w.heap.size)\/w.heap.size<=b
def GQ(n:Nat):Prop:=∀ (A:Nat->Prop)(p:Option Wu)(f:List UInt8->List Ver)(a:ByteArray)(b:Wx)(h:List Ver)(w:Wj),am A n w p f->a.size<n->a.size<=1000->bm A w b h->h≠[] ->
 Calls Yq.prog 69 #[O p,U a,b] w λe c=>∃g,e=.returned (O (J ⟨g,0,N⟩))/\Below w.heap.size w c/\am (Grow A w) n c (J ⟨g,0,N⟩) (upd f a.data.toList h)
theorem jn(e:Below w.heap.size w h):∀b,A b->b<w.heap.size->Grow A w b/\h.heap[b]?=w.heap[b]?:=
 λb d a=>⟨Or.inl ⟨d,a⟩,e.block b a⟩
theorem BB(f:List UInt8->List Ver)(h:List Ver):upd f [] h []=h:=by simp[upd]
theorem mL(f:List UInt8->List Ver)(h:List Ver)(c:UInt8)(k:List UInt8):upd f [] h (c::k)=f (c::k):=by simp[upd]
theorem iV(f:List UInt8->List Ver)(h:List Ver)(c:UInt8)(k:List UInt8):upd f (c::k) h []=f []:=by simp[upd]
theorem upd_same(f:List UInt8->List Ver)(h:List Ver)(c:UInt8)(k:List UInt8):(λx=>upd f (c::k) h (c::x))=upd (λx=>f (c::x)) k h:=by funext x;simp[upd]
theorem oA(f:List UInt8->List Ver)(h:List Ver)(c d:UInt8)(k:List UInt8)(a:d≠c):(λx=>upd f (c::k) h (d::x))=λx=>f (d::x):=by funext x;simp[upd,a]
theorem pR{j:Wj}{r:List (UInt8×Option Wu)}(a:Made A n w j f g l s r)(b:Bool)(i:Wx)(h:List Ver)(v:bm A w i h)(x:b=!h.isEmpty)(p:Wj)
  (t:p=(j.setCell ⟨g,0,N⟩ (C b)).setCell ⟨g,1,N⟩ i):
  Below w.heap.size w p/\am (Grow A w) (n+1) p (J ⟨g,0,N⟩) (upd f [] h):=by
 subst t;have o:=a.node.lt g rfl;have s1:=a.node.stored 0 (C b);have s2:=s1.1.stored 1 i;simp only[List.set_cons_zero,List.set_cons_succ]at s2;have d:Below w.heap.size w ((j.setCell ⟨g,0,N⟩ (C b)).setCell ⟨g,1,N⟩ i):=(a.below.setCell o.1 _).setCell o.1 _;have m:=cw s1.2 s2.2;have⟨⟨B,F,u⟩,fz⟩:=ci s2.1;have y:=a.kids.kept m (Or.inr a.apart);refine⟨d,Or.inr ⟨g,i,s,r,rfl,Or.inr o.1,?_,F,u,?_,?_,a.sorted,?_,?_,a.noNil⟩⟩
 .rw [BB,<-x];exact B
 .rw [BB];exact bZ.keep v (jn d)
 .exact dw rfl y (λk e=>Or.inr (a.kids.lt k e).1)
 .intro c q z;have:(λk=>upd f [] h (c::k))=λk=>f (c::k):=by funext k;exact mL f h c k
  rw[this];exact am.keep (jn d) n q _ (a.child c q z)
 .intro c D k;rw[mL];exact a.noKid c D k
theorem vO(n:Nat)(A:Nat->Prop)(p:Option Wu)(f:List UInt8->List Ver)(b:ByteArray)(r:Wx)(h:List Ver)(w:Wj)(s:am A (n+1) w p f)(o:b.size=0)(k:bm A w r h)(j:h≠[]):
  Calls Yq.prog 69 #[O p,U b,r] w λe q=>∃g,e=.returned (O (J ⟨g,0,N⟩))/\Below w.heap.size w q/\am (Grow A w) (n+1) q (J ⟨g,0,N⟩) (upd f b.data.toList h):=by
 have d:=kH A n p f w s;have c:b.data.toList=[]:=List.eq_nil_of_length_eq_zero (by simpa using o);have hke:b.toList.isEmpty=true:=by rw[ByteArray.toList_eq,c];rfl
 have l:=k;obtain⟨u,v,rfl,-⟩:=l;have i:Hid (b.data.toList=[]/\bm A w (M u h.length v) h):=⟨c,k⟩;clear c o s k;go_enter (Yq.nq func69),ntmps69;go_wp2_with fail
 refine d.mono ?_;rintro e w1 ⟨g,hv0,kv,ks,rfl,a⟩;have⟨⟨c0,c1,c2⟩,m⟩:=ci a.node;have f0:=m 0;have f1:=m 1;clear d;go_wp2;go_ret;have t:=pR a Y _ h i.out.2 (by simp[j]) _ rfl;rw[i.out.1];exact⟨g,rfl,t⟩
structure Rdy (A:Nat->Prop)(n:Nat)(w w3:Wj)(f:List UInt8->List Ver)(g:Nat)(hv0:Wx)(k cap:Nat)(ks:List (UInt8×Option Wu))(r:Nat)(c:UInt8)(q:Option Wu)(d:Nat):Prop where
 below:Below w.heap.size w w3
 node:w3.ownsRow w.heap.size 145 3 (M (J ⟨g,0,N⟩) 1 1) 1 [C (!(f []).isEmpty),hv0,M (J ⟨k,0,N⟩) (aO ks r c q d).length cap]
 kids:w3.ownsRow w.heap.size 177 2 (M (J ⟨k,0,N⟩) (aO ks r c q d).length cap) (aO ks r c q d).length (aC (aO ks r c q d))
 apart:k≠g
 hist:bm A w hv0 (f [])
 sorted:ks.Pairwise (λa b=>a.1<b.1)
 place:Place ks c r
 isd:d=if nA ks c r then 1 else 0
 child:∀c q,(c,q)∈ks->am A n w q (λk=>f (c::k))
 noKid:∀c,(∀q,(c,q) ∉ ks)->∀k,f (c::k)=[]
 noNil:∀c q,(c,q)∈ks->q≠N
 this:am A n w q (λk=>f (c::k))
theorem gF{a:List (UInt8×Option Wu)}{c:UInt8}(hr:r<=a.length):r<(aO a r c q d).length:=by
 unfold aO;rw[lP,tL,lC];omega
theorem lQ{a:List (UInt8×Option Wu)}{c:UInt8}(b:r<=a.length):(aO a r c q d)[r]'(gF b)=(c,q):=by
 have e:(aO a r c q d)[r]?=J (c,q):=by
  have e:r-(a.take r).length=0:=by rw[tL];omega
  unfold aO;rw[aR (by rw[tL];omega),e];rfl
 exact(sL e).2
theorem zl{a:List (UInt8×Option Wu)}{c:UInt8}{q':Option Wu}(hr:r<=a.length):(aO a r c q d).take r++(c,q')::(aO a r c q d).drop (r+1)=aO a r c q' d:=by
 have b:(a.take r).length=r:=by rw[tL];omega
 unfold aO;rw[List.take_left' b,show(a.take r++(c,q)::a.drop (r+d))=(a.take r++[(c,q)])++a.drop (r+d)by simp,List.drop_left' (by simp[b])]
theorem ie{a:List (UInt8×Option Wu)}{c:UInt8}{q':Option Wu}:(aO a r c q d).length=(aO a r c q' d).length:=by
 unfold aO;simp
theorem Rdy.cells{A:Nat->Prop}{n:Nat}{w b:Wj}{f:List UInt8->List Ver}{g:Nat}{j:Wx}{k h:Nat}{i:List (UInt8×Option Wu)}{r:Nat}{c:UInt8}{q:Option Wu}{d:Nat}(R:Rdy A n w b f g j k h i r c q d):
  b.cell? ⟨g,2,N⟩=J (M (J ⟨k,0,N⟩) (aO i r c q d).length h)/\b.cell? ⟨k,r*2+1,N⟩=J (O q)/\b.frozen? ⟨k,r*2+1,N⟩=Z/\(aO i r c q d).length<=256:=by
 have⟨⟨c0,c1,m⟩,fz⟩:=ci R.node;have o:gz (λ_=>True) b _ (aO i r c q d):=dw rfl R.kids (λ_ _=>trivial);have a:=gF (c:=c) (q:=q) (d:=d) R.place.le;have l:aO i r c q d≠[]:=by intro e;rw[e]at a;simp at a
 obtain⟨g',cap',p,-,-,s,-⟩:=o.cells l;cases p;refine⟨m,?_,R.kids.frozenAt _,lJ _ (g9 R.sorted R.place q d R.isd)⟩;have:=(s r a).2;rw[lQ R.place.le]at this;exact this
theorem Rdy.done{z:Wj}{k p:Nat}{c:UInt8}(R:Rdy A n w z f g s k p t r c q d)
  (v:Wj) (u:Below z.heap.size z v) (a:Option Wu) (F:List UInt8->List Ver) (D:F []=f []) (B:∀h,h≠c->(λx=>F (h::x))=λx=>f (h::x))
  (hq:am (Grow (λb=>A b/\b<w.heap.size) z) n v a (λx=>F (c::x))) (wf:Wj) (S:wf=v.setCell ⟨k,r*2+1,N⟩ (O a)):
  Below w.heap.size w wf/\(a≠N->am (Grow A w) (n+1) wf (J ⟨g,0,N⟩) F) /\
   wf.ownsRow w.heap.size 145 3 (M (J ⟨g,0,N⟩) 1 1) 1 [C (!(f []).isEmpty),s,M (J ⟨k,0,N⟩) (aO t r c a d).length p] /\
   wf.ownsRow w.heap.size 177 2 (M (J ⟨k,0,N⟩) (aO t r c a d).length p) (aO t r c a d).length (aC (aO t r c a d)):=by
 subst S;have G:=R.kids.lt k rfl;have X:=R.node.lt g rfl;have m:z.grownBy v none:=⟨u.os,u.tape,u.output,u.size,λi hi _=>u.block i hi⟩;have n4:=R.node.kept m (by simp[Value.ownBlock]);have k4:=R.kids.kept m (by simp[Value.ownBlock]);have H:=k4.stored (r*2+1) (O a);have Q:=n4.kept H.2 (Or.inr (by simp[Value.ownBlock];exactλe=>R.apart e.symm));rw[tu _ r c a (gF R.place.le) (by rw[lQ R.place.le]),zl R.place.le,ie (q':=a)]at H;rw[ie (q':=a)]at Q;have o:Below w.heap.size w (v.setCell ⟨k,r*2+1,N⟩ (O a)):=(R.below.trans (u.mono R.below.size)).setCell G.1 _;obtain⟨⟨c0,c1,c2⟩,-⟩:=ci Q;refine⟨o,λV=>Or.inr ⟨g,s,_,aO t r c a d,rfl,Or.inr X.1,by rw[D];exact c0,c1,c2,by rw[D];exact bZ.keep R.hist (jn o),?_,g9 R.sorted R.place a d R.isd,?_,?_,?_⟩,Q,H.1⟩
 .exact dw rfl H.1 (λj e=>by simp[Value.ownBlock]at e;subst e;exact Or.inr G.1)
 .intro h x hx;rcases pQ R.sorted R.place a d R.isd h x hx with⟨rfl,rfl⟩|⟨l,hm⟩
  .refine am.keep (λb aa hb2=>?_) n x _ hq;rcases aa with⟨⟨hA,P⟩,_⟩|hge
   .exact ⟨Or.inl ⟨hA,P⟩,bS _ _ _ _ (by show b≠k;omega)⟩
   .have:=R.below.size;exact⟨Or.inr (by omega),bS _ _ _ _ (by show b≠k;omega)⟩
  .rw [B h l];exact am.keep (jn o) n x _ (R.child h x hm)
 .intro h T y;have⟨l,L⟩:=tw R.sorted a d R.isd h T;have:F (h::y)=f (h::y):=congrFun (B h l) y;rw[this];exact R.noKid h L y
 .intro h x hx;rcases pQ R.sorted R.place a d R.isd h x hx with⟨rfl,rfl⟩|⟨l,hm⟩
  .exact V
  .exact R.noNil h x hm
theorem Made.rdy{p v:Wj}{x:Wx}{b:List (UInt8×Option Wu)}(a:Made A n w p f g l x b)(j:Below p.heap.size p v){c:UInt8}(y:Place b c r)(o:nA b c r=Y):
  ∃k d q,x=M (J ⟨k,0,N⟩) (aO b r c q 1).length d/\Rdy A n w v f g l k d b r c q 1:=by
 have⟨z,m⟩:=Place.mem o;have t:aO b r c b[r].2 1=b:=by
  unfold aO;have:(c,b[r].2)=b[r]:=by rw[<-m]
  rw[this,List.getElem_cons_drop,List.take_append_drop]
 have h:p.grownBy v none:=⟨j.os,j.tape,j.output,j.size,λi B _=>j.block i B⟩;have D:=a.node.kept h (by simp[Value.ownBlock]);have u:=a.apart;have s:=a.kids;rcases s.2 with⟨_,h0⟩|⟨k,d,cur,rfl,_⟩
 .omega
 have s:=a.kids.kept h (by simp[Value.ownBlock]);refine⟨k,d,b[r].2,by rw[t],a.below.trans (j.mono a.below.size),?_,?_,λe=>u (by simp[Value.ownBlock,e]),a.hist,a.sorted,y,by simp[o],a.child,a.noKid,a.noNil,a.child c _ (by rw[<-m];exact List.getElem_mem z)⟩
 .rw [t];exact D
 .rw [t];exact s
theorem cW{p:Ww}{c:Nat}{v:Wx}{d:List Wx}(h:w.ownsRow r p c v n d)(hn:0<n):∃g a,v=M (J ⟨g,0,N⟩) n a/\r<=g/\g<w.heap.size/\n<=a:=by
 rcases h.2 with⟨rfl,rfl⟩|⟨g,a,cur,rfl,f,i,j,_⟩
 .omega
 .exact ⟨g,a,rfl,f,(eS i).1,j⟩
theorem aS{b:Wj}(a:Below w.heap.size w b)(r:Option Nat):w.grownBy b r:=⟨a.os,a.tape,a.output,a.size,λi c _=>a.block i c⟩
theorem Made.rdyNew{x u t s:Wj}{D:Wx}{b:List (UInt8×Option Wu)}(a:Made A n w x f g l D b)(B:Below x.heap.size x u){c:UInt8}(v:Place b c r)(m:nA b c r=Z)
  (i:Below u.heap.size u t) (k d:Nat) (L:s.ownsRow w.heap.size 177 2 (M (J ⟨k,0,N⟩) (b.length+1) d) (b.length+1) (aC (aO b r c N 0))) (p:t.grownBy s D.ownBlock)
  (q:(Value.slice (J ⟨k,0,N⟩) (b.length+1) d).ownBlock=D.ownBlock\/∀j,(Value.slice (J ⟨k,0,N⟩) (b.length+1) d).ownBlock=J j->t.heap.size<=j):
  (aO b r c N 0).length=b.length+1/\Rdy A n w (s.setCell ⟨g,2,N⟩ (M (J ⟨k,0,N⟩) (b.length+1) d)) f g l k d b r c N 0:=by
 have y:(aO b r c N 0).length=b.length+1:=by
  unfold aO;rw[lP,tL,lC,lD];have:=v.le;omega
 have z:=a.node.lt g rfl;have o:k≠g:=by
  intro e;rcases q with h|h
  .exact a.apart (by rw[<-h,e];rfl)
  .have:=h k rfl;have:=B.size;have:=i.size;omega
 have F:Below w.heap.size w u:=a.below.trans (B.mono a.below.size);have H:Below w.heap.size w t:=F.trans (i.mono F.size);have R:=a.node.kept (aS B N) (by simp[Value.ownBlock]);have S:=R.kept (aS i N) (by simp[Value.ownBlock]);have Q:=S.kept p (Or.inr (by simp only[Value.ownBlock];exactλe=>a.apart e.symm));have G:=Q.stored 2 (M (J ⟨k,0,N⟩) (b.length+1) d);have T:=L.kept G.2 (Or.inr (by simp[Value.ownBlock];exact o));have P:Below w.heap.size w s:=H.grown p H.size (λj e=>(a.kids.lt j e).1);refine⟨y,P.setCell z.1 _,by rw[y];exact G.1,by rw[y];exact T,o,a.hist,a.sorted,v,by simp[m],a.child,a.noKid,a.noNil,am.nil (a.noKid c (v.nomem a.sorted m))⟩
theorem bG{j:Option Nat}(f:w.grownBy h j)(a:Wu)(c:a.block<w.heap.size)(d:J a.block≠j):h.frozen? a=w.frozen? a:=
 fB (w:=w) (f.block a.block c d)
theorem zm(n:Nat)(ih:GQ n)(A:Nat->Prop)(p:Option Wu)(f:List UInt8->List Ver)(j:ByteArray)(hv:Wx)(h:List Ver)(w:Wj)(hN:am A (n+1) w p f)(hk:0<j.size)(hkn:j.size<n+1)(hk2:j.size<=1000)(hh:bm A w hv h)(af:h≠[]):
  Calls Yq.prog 69 #[O p,U j,hv] w λe w'=>∃g,e=.returned (O (J ⟨g,0,N⟩))/\Below w.heap.size w w'/\am (Grow A w) (n+1) w' (J ⟨g,0,N⟩) (upd f j.data.toList h):=by
 have T:=kH A n p f w hN;have F:=xD j hk;have hke:j.toList.isEmpty=false:=by rw[ByteArray.toList_eq,F];rfl
 have ar:=hh;obtain⟨ha,hc,rfl,-⟩:=ar;have X:Hid (j.data.toList=j[0]::(j.extract 1 j.size).data.toList/\bm A w (M ha h.length hc) h):=⟨F,hh⟩;have IH:Hid (GQ n):=ih;clear F hN hh ih;go_enter (Yq.nq func69),ntmps69;go_wp2_with fail
 refine T.mono ?_;rintro e w1 ⟨g,G,kv,l,rfl,i⟩;have⟨⟨c0,c1,c2⟩,fz⟩:=ci i.node;have y:gz (λ_=>True) w1 kv l:=dw rfl i.kids (λ_ _=>trivial);have V:=ox (λ_=>True) g kv l j[0] w1 c2 y i.sorted;clear T c0 c1 c2 fz y;go_wp2_with fail
 refine V.mono ?_;rintro e t ⟨r,P,rfl,s⟩;clear V
 go_upto_if 30 with fail
 go_cut [9] (λ_ wx=>∃k o q d,Rdy A n w wx f g G k o l r j[0] q d)
 case first=>
  cases B:nA l j[0] r with
  |true=>
   obtain⟨k,o,q,rfl,R⟩:=i.rdy s P B;have HR:Hid (Rdy A n w t f g G k o l r j[0] q 1):=R;clear R i P;go_wp2
   go_meet
   case rel=>exact⟨k,o,q,1,HR.out⟩
  |false=>
   have y:=i.kids;obtain⟨H,Q,rfl,-⟩:=az i.kids;have hle:=lJ l i.sorted;have av:=P.le;have ab:=ah s (ci i.node).1.2.2;have a1:=(s.frozen (p:=⟨g,2,N⟩) (i.node.lt g rfl).2).trans ((ci i.node).2 2);have z:g<t.heap.size:=bC t _ ab;have HI:Hid (∀u:Wj,u.heap=(t.alloc (E #[I .u8 (j[0].toNat:Int),O N] 177)).heap ->
     Calls Yq.prog 93 #[M H l.length Q,I K r,M (J ⟨t.heap.size,0,N⟩) 1 1] u (fC w.heap.size (M H l.length Q) r l.length (aC l) (I .u8 (j[0].toNat:Int)) (O N) u)):=λu L=>by
    have al:Below t.heap.size t (t.alloc (E #[I .u8 (j[0].toNat:Int),O N] 177)):=(bR _ _).alloc (lR _) _;have b2:Below w.heap.size w t:=i.below.trans (s.mono i.below.size);have kq:=(i.kids.kept (aS s N) (by cases h:Value.ownBlock (M H l.length Q)<;>simp)).alloc (E #[I .u8 (j[0].toNat:Int),O N] 177);have ad:u.ownsRow w.heap.size 177 2 (M H l.length Q) l.length (aC l):=by
     unfold World.ownsRow at kq ⊢;rw[L];exact kq
    refine Ei w.heap.size _ l.length r (aC l) t.heap.size _ _ u ad (by omega) av 177 (by rw[L];exact heap_alloc_new t _) ?_ ⟨rfl,rfl⟩ (iU l) (by rw[L];have:=b2.size;have:=al.size;omega);intro e;have:=(i.kids.lt _ e).2;have:=s.size;omega
   have HM:Hid (nA l j[0] r=Z/\Place l j[0] r/\Made A n w w1 f g G (M H l.length Q) l):=⟨B,P,i⟩;clear B P i y;go_wp2_with fail
   go_region_with (go_at_call 93;refine(HI.out ((t.alloc (E #[I .u8 (j[0].toNat:Int),O N] 177)).drew) rfl).mono ?_;rintro e w3 ⟨v',rfl,ho,D,ac⟩;obtain⟨k,o,rfl,-,-,-⟩:=cW ho (Nat.succ_pos _);have k2:w3.cell? ⟨g,2,N⟩=J (M H l.length Q):=D.cell (a:=⟨g,2,N⟩) (ah ((bR _ t).alloc (lR _) _) ab) (λe=>HM.out.2.2.apart e.symm);have kf:w3.frozen? ⟨g,2,N⟩=false:=(bG D ⟨g,2,N⟩ (lL z (by simp)) (λe=>HM.out.2.2.apart e.symm)).trans ((((bR _ t).alloc (lR _) _).frozen (p:=⟨g,2,N⟩) z).trans a1))
   all_goals
    go_wp2_with fail
    go_meet
    case rel=>
     rw[th]at ho;exact⟨k,o,N,0,(HM.out.2.2.rdyNew s HM.out.2.1 HM.out.1 ((bR _ t).alloc (lR _) _).drew k o ho D ac).2⟩
 case rest=>
  obtain⟨k,o,q,d,R⟩:=hcut;have⟨c2,d1,fr,hl⟩:=R.cells;have hr:=gF (c:=j[0]) (q:=q) (d:=d) R.place.le;clear i P s;generalize hm:(aO l r j[0] q d).length=m at *;have HL:Hid ((aO l r j[0] q d).length=m):=hm;clear hm;have a0:=bC wc _ d1;have HQ:Hid (∀u:Wj,u.heap=wc.heap->am (λb=>A b/\b<w.heap.size) n u q (λx=>f (j[0]::x))/\bm (λb=>A b/\b<w.heap.size) u (M ha h.length hc) h):=λu L=>
   ⟨am.keep (λb h1 S=>⟨⟨h1,S⟩,by rw[L];exact R.below.block b S⟩) n q _ R.this,bZ.keep X.out.2 (λb h1 S=>⟨⟨h1,S⟩,by rw[L];exact R.below.block b S⟩)⟩
  have aa:Hid ((j.extract 1 j.size).size<n/\(j.extract 1 j.size).size<=1000):=by
   have:(j.extract 1 j.size).size=j.size-1:=by simp
   exact⟨by omega,by omega⟩
  go_wp2_with fail
  go_region_with (go_at_call 69;refine(IH.out (λb=>A b/\b<w.heap.size) q (λx=>f (j[0]::x)) _ _ h _ ?_ ?_ ?_ ?_ af).mono ?_;exact(HQ.out wc.drew rfl).1;exact aa.out.1;exact aa.out.2;exact(HQ.out wc.drew rfl).2;rintro e w4 ⟨g',rfl,v,a2⟩;have k2:=ah (W:=wc.drew) v c2;have kd:=ah (W:=wc.drew) v d1;have kf:=(v.frozen (p:=⟨k,r*2+1,N⟩) a0).trans fr)
  all_goals
   go_wp2;go_ret;have hd:=R.done w4 ((bR _ wc).drew.trans v) (J ⟨g',0,N⟩) (upd f (j[0]::(j.extract 1 j.size).data.toList) h) (iV _ _ _ _) (λc' ap=>oA _ _ _ _ _ ap) (by rw[upd_same];exact a2) _ rfl;rw[X.out.1];exact⟨g,rfl,hd.1,hd.2.1 (by simp)⟩
theorem BC:∀n,GQ n:=by
 intro n;induction n with
 |zero=>intro A p f a d h w _ e;omega
 |succ n ih=>
  intro A p f a d h w j e c i b;by_cases k:a.size=0
  .exact vO n A p f a d h w j k i b
  .exact zm n ih A p f a d h w j (by omega) e c i b
end
