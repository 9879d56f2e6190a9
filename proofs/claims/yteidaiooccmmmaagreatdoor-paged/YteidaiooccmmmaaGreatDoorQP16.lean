/- A part. -/
import Derived.Test.YteidaiooccmmmaaGreatDoorQP11
set_option maxHeartbeats 4000000
set_option maxRecDepth 100000
open Go renaming World->Wj,Value->Wx
namespace Go.Proofs.Qw
open Option renaming none->N,some->J
open Bool renaming true->Y,false->Z
open Value renaming int->I,string->U,slice->M,bool->C
open IntKind renaming i64->K
open Obj renaming cells->E
variable {a kh:List UInt8×List Ver}{its l:List ItD}
open Tryz
section
open Go.RowKit
theorem Fj(a b:ByteArray):Op.bytesLess a.toList b.toList=decide (a.data.toList<b.data.toList):=by rw[Proofs.bytesLess_eq,ByteArray.toList_eq,ByteArray.toList_eq]
theorem CQ(a b:ItD)(w:Wj):Calls Yq.prog 106 #[itVal a,itVal b] w λe o=>e=.returned (C (ni a b))/\Below w.heap.size w o:=by
 obtain⟨k,f,n⟩:=a;obtain⟨i,j,m⟩:=b;have HB:Hid (∀c d,Below w.heap.size w ((w.alloc c).alloc d)):=λc d=>((bR _ _).alloc (lR _) _).alloc (by simp) _
 unfold itVal;by_cases l:f=j
 .subst l;have p:=ur f;have h:ni ⟨k,f,n⟩ ⟨i,f,m⟩=if(k==2)=(i==2)then decide (m<n)else(i==2):=by simp only[ni,if_true];rfl
  rw[h];clear h;cases h1:(k==2)<;>cases h2:(i==2) <;>
  .simp only[reduceCtorEq,if_true,if_false];go_enter (Yq.nq func106),ntmps106;go_wp2_with fail
   go_ret;exact⟨rfl,HB.out _ _⟩
 .have p:=us l;have h:ni ⟨k,f,n⟩ ⟨i,j,m⟩=Op.bytesLess f.toList j.toList:=by rw[Fj];simp only[ni,l,if_false];rfl
  rw[h];clear h;generalize h:Op.bytesLess f.toList j.toList=z;clear l;go_enter (Yq.nq func106),ntmps106;go_wp2_with fail
  go_ret;exact⟨rfl,HB.out _ _⟩
theorem Fk{d s:List UInt8}(a:d≠[])(h:s.length<d.length):dx d s=none:=by
 cases b:dx d s with
 |none=>rfl
 |some i=>have:=i8 a s i b;omega
def cpart(k p d:ByteArray):ByteArray:=match aU ⟨Z,p,d,⟨#[]⟩⟩ k.data.toList with
 |none=>⟨#[]⟩
 |some c=>⟨c.toArray⟩
def Jd(s d:ByteArray):Option Nat->ByteArray
 |none=>⟨#[]⟩
 |some j=>s.extract 0 (j+d.size)
theorem CR(s p d:ByteArray)(w:Wj)(hs:s.size<=1000)(hp:p.size<=1000)(hd:d.size<=140737488351232):Calls Yq.prog 83 #[U s,U p,U d] w λe D=>e=.returned (U (cpart s p d))/\D=w:=by
 have hps:p.data.toList.length=p.size:=by simp
 have t:d.data.toList.length=d.size:=by simp
 have hss:s.data.toList.length=s.size:=by simp
 by_cases y:d=⟨#[]⟩
 .subst y;have e:cpart s p ⟨#[]⟩=⟨#[]⟩:=rfl;rw[e];go_enter (Yq.nq func83),ntmps83;go_wp2;go_ret;exact⟨rfl,rfl⟩
 .have hz:=jt y;have l:d.data.toList≠[]:=λe=>y (ByteArray.ext (Array.toList_inj.1 e))
  have HD:Hid (d.data.toList≠[]):=l;have v:0<d.size:=by have:=List.length_pos_iff.2 l;omega
  have HI:Hid (∀x,(dx d.data.toList (s.data.toList.drop p.size)).map (p.size+·)=x->cpart s p d=Jd s d x):=λx F=>by
   subst F;unfold cpart aU;rw[if_neg (show¬d.size=0 by omega)];cases dx d.data.toList (s.data.toList.drop p.size)with
   |none=>rfl
   |some j=>
    refine ByteArray.ext (Array.toList_inj.1 ?_);show s.data.toList.take (p.size+j+d.size)=_;simp only[Jd,Option.map_some,Lib.extract_data,List.drop_zero,Nat.sub_zero]
  have HB:Hid (∃h,(dx d.data.toList (s.data.toList.drop p.size)).map (p.size+·)=h):=⟨_,rfl⟩;generalize cpart s p d=o at *;have⟨h,b⟩:=HB.out;have HB:Hid (h=(dx d.data.toList (s.data.toList.drop p.size)).map (p.size+·)):=b.symm;have HI:Hid (o=Jd s d h):=HI.out _ b;clear l y b v;go_enter (Yq.nq func83),ntmps83;go_wp2_with fail
  go_loopw [7] (λs7 wr=>∃i:Nat,i<=p.size+s.size/\s7=I K i/\wr=w/\h=(dx d.data.toList (s.data.toList.drop i)).map (i+·)) (λs7 _=>p.size+s.size-(intOf s7).toNat)
  case atStart=>exact⟨p.size,by omega,rfl,rfl,HB.out⟩
  case round=>
   obtain⟨i,hi,rfl,rfl,b⟩:=hrel;have k:Hid (h=(dx d.data.toList (s.data.toList.drop i)).map (i+·)):=b;clear b HB;have hdp:0<d.size:=by have:=List.length_pos_iff.2 HD.out;omega
   by_cases hlt:i+d.size<=s.size
   .have u:(i:Int)+d.size<=s.size:=by omega
    have A:i<s.data.toList.length:=by omega
    have a:dx d.data.toList (s.data.toList.drop i)=if d.data.toList.isPrefixOf (s.data.toList.drop i)then J 0 else(dx d.data.toList (s.data.toList.drop (i+1))).map (·+1):=by
     rw[List.drop_eq_getElem_cons A,dx]
    have f:(s.extract i (i+d.size)).toList=(s.data.toList.drop i).take d.size:=by
     rw[ByteArray.toList_eq,Lib.extract_data,Nat.add_sub_cancel_left]
    by_cases n:d.data.toList.isPrefixOf (s.data.toList.drop i)=Y
    .have B:(s.extract i (i+d.size)).toList=d.toList:=by
      rw[f,ByteArray.toList_eq,<-t];exact(List.prefix_iff_eq_take.1 (List.isPrefixOf_iff_prefix.1 n)).symm
     have c:o=s.extract 0 (i+d.size):=by
      have r:=k.out;rw[a,if_pos n]at r;have:=HI.out;rw[r]at this;exact this
     have m:Hid (o=s.extract 0 (i+d.size)):=c;clear a f n c;go_wp2;go_ret;exact⟨by rw[m.out];rfl,rfl⟩
    .have B:¬(s.extract i (i+d.size)).toList=d.toList:=λe=>n (by
      rw[f,ByteArray.toList_eq,<-t]at e;exact List.isPrefixOf_iff_prefix.2 (List.prefix_iff_eq_take.2 e.symm))
     have he2:((s.extract i (i+d.size)).toList==d.toList)=false:=by simpa using B
     have q:h=(dx d.data.toList (s.data.toList.drop (i+1))).map (i+1+·):=by
      rw[k.out,a,if_neg n,Option.map_map];congr 1;funext j;show i+(j+1)=i+1+j;omega
     have z:Hid (h=(dx d.data.toList (s.data.toList.drop (i+1))).map (i+1+·)):=q;clear a f n q;go_wp2_with fail
     exact⟨⟨i+1,by omega,by go_num,trivial,z.out⟩,by simp[intOf];omega⟩
   .have u:¬(i:Int)+d.size<=s.size:=by omega
    have c:o=⟨#[]⟩:=by
     have r:=k.out;rw[Fk HD.out (by rw[lD];omega)]at r;have:=HI.out;rw[r]at this;exact this
    have m:Hid (o=⟨#[]⟩):=c;clear c;go_wp2;go_ret;exact⟨by rw[m.out];rfl,rfl⟩
theorem Jw{a b:ItD}(h:Dm a b=Z):(a.kind==b.kind)=Z\/((a.kind==b.kind)=Y/\(a.text.toList==b.text.toList)=Z)\/((a.kind==b.kind)=Y/\(a.text.toList==b.text.toList)=Y/\(a.ver==b.ver)=Z):=by
 by_cases c:a.kind=b.kind
 .by_cases d:a.text=b.text
  .refine .inr (.inr ⟨by simp[c],by rw[d];exact ur _,?_⟩);simp[Dm,c,d]at h;simp[h]
  .exact .inr (.inl ⟨by simp[c],us d⟩)
 .exact .inl (by simp[c])
theorem jd(l:List ItD):∀u∈an l,u.oneCell'=true:=by
 intro u a;simp only[an,List.mem_flatMap]at a;obtain⟨x,-,b⟩:=a;simp at b;rcases b with rfl|rfl|rfl<;>rfl
theorem Fm{x:ItD}{i:Nat}(h:i<l.length):atN x l (i+1)=if ni l[i] x then i+1 else atN x l i:=by
 rw[atN,eL h]
theorem xY(B:Nat)(v:Wx)(l:List ItD)(x:ItD)(w:Wj)(h:w.ownsRow B 117 3 v l.length (an l))(hB:B<=w.heap.size)(hn:l.length<=1000):
  Calls Yq.prog 84 #[v,itVal x] w λe w'=>∃v',e=.returned v'/\w'.ownsRow B 117 3 v' (aZ l x).length (an (aZ l x))/\Below w.heap.size w w':=by
 obtain⟨a,c,rfl,hx⟩:=(rC h).form;have HX:Hid (l≠[]->∃g,a=J ⟨g,0,N⟩/\∀j,j<l.length*3->w.cell? ⟨g,j,N⟩=(an l)[j]?):=hx;have HH:Hid (w.ownsRow B 117 3 (M a l.length c) l.length (an l)):=h;clear hx h;obtain⟨n,al⟩:∃n,l.length=n:=⟨_,rfl⟩;have HN:Hid (l.length=n):=al;rw[al]at hn ⊢;clear al;have HL:Hid (∀ (i:Nat) (h:i<l.length) (w:Wj),Calls Yq.prog 106 #[itVal l[i],itVal x] w λe w'=>e=.returned (C (ni l[i] x))/\Below w.heap.size w w'):=λi h w=>CQ _ _ w
 obtain⟨f,d,b⟩:=x;unfold itVal at *;have⟨i0,P,R,X,H⟩:=info_parts Yq.infoItem;go_enter (Yq.nq func84),ntmps84;go_wp2_with fail
 have a5:Below w.heap.size w (w.alloc (E #[I K f,U d,I K b] 117)):=(bR _ w).alloc (lR _) _;have x0:(w.alloc (E #[I K f,U d,I K b] 117)).cell? ⟨w.heap.size,0,N⟩=J (I K f):=by rw[cA (w:=w) _ _ w.heap.size 0 rfl];rfl
 have x1:(w.alloc (E #[I K f,U d,I K b] 117)).cell? ⟨w.heap.size,1,N⟩=J (U d):=by rw[cA (w:=w) _ _ w.heap.size 1 rfl];rfl
 have x2:(w.alloc (E #[I K f,U d,I K b] 117)).cell? ⟨w.heap.size,2,N⟩=J (I K b):=by rw[cA (w:=w) _ _ w.heap.size 2 rfl];rfl
 have HW:Hid (Below w.heap.size w (w.alloc (E #[I K f,U d,I K b] 117))/\(w.alloc (E #[I K f,U d,I K b] 117)).cell? ⟨w.heap.size,0,N⟩=J (I K f)/\(w.alloc (E #[I K f,U d,I K b] 117)).cell? ⟨w.heap.size,1,N⟩=J (U d)/\(w.alloc (E #[I K f,U d,I K b] 117)).cell? ⟨w.heap.size,2,N⟩=J (I K b)):=⟨a5,x0,x1,x2⟩;clear a5 x0 x1 x2;generalize w.alloc (E #[I K f,U d,I K b] 117)=Wz at *
 go_loopw [5,6] (λs5 s6 wr=>∃i:Nat,i<=n/\s6=I K i/\s5=I K (atN ⟨f,d,b⟩ l i:Nat)/\(∀j (h:j<l.length),j<i->Dm l[j] ⟨f,d,b⟩=Z)/\Below Wz.heap.size Wz wr) (λ_ s6 _=>n-(intOf s6).toNat)
 case atStart=>exact⟨0,Nat.zero_le _,rfl,rfl,λj h hj=>absurd hj (by omega),bR _ _⟩
 case round=>
  obtain⟨i,hin,rfl,rfl,a0,hb⟩:=hrel;have a3:Hid (∀j (h:j<l.length),j<i->Dm l[j] ⟨f,d,b⟩=Z):=a0;have a1:Hid (Below Wz.heap.size Wz wr):=hb;have HB:Hid (Below w.heap.size w wr):=HW.out.1.trans (hb.mono HW.out.1.size);have x0:=ah hb HW.out.2.1;have x1:=ah hb HW.out.2.2.1;have x2:=ah hb HW.out.2.2.2;clear a0 hb;by_cases bq:i<n
  .have D:i<l.length:=by rw[HN.out];exact bq
   have a9:l≠[]:=by intro e;rw[e]at D;simp at D
   obtain⟨g,rfl,hc⟩:=HX.out a9;have⟨e0,e1,e2⟩:=mm l i D;have c0:=ah HB.out ((hc (i*3) (by omega)).trans e0);have c1:=ah HB.out ((hc (i*3+1) (by omega)).trans e1);have c2:=ah HB.out ((hc (i*3+2) (by omega)).trans e2);have ar:=HL.out i D;have af:=Fm (x:=⟨f,d,b⟩) D;have hii:(i:Int)<n:=by omega
   cases T:Dm l[i] ⟨f,d,b⟩with
   |true=>
    have HQ:Hid (aZ l ⟨f,d,b⟩=l):=by
     show aZ l ⟨f,d,b⟩=l;unfold aZ;rw[if_pos (List.any_eq_true.2 ⟨_,List.getElem_mem D,T⟩)]
    rw[rD]at T;rw[T]at c0 c1 c2;clear T hc e0 e1 e2 af ar HL;simp only at c0 c1 c2;go_wp2
    go_region
    all_goals
     go_wp2;go_ret;have hd:=HB.out.drew;refine⟨_,rfl,?_,hd⟩;rw[HQ.out,HN.out];have h:=HH.out;rw[HN.out]at h;exact h.kept (aS hd N) (none_or _)
   |false=>
    have HQ:Hid (Dm l[i] ⟨f,d,b⟩=Z):=T;have hk:=Jw T;have bt:Hid (∀j (h:j<l.length),j<i+1->Dm l[j] ⟨f,d,b⟩=Z):=λj h hj=>by
     rcases Nat.lt_or_ge j i with h1|h1
     .exact a3.out j h h1
     .have:j=i:=by omega
      subst this;exact T
    have bv:Hid (atN ⟨f,d,b⟩ l (i+1)=if ni l[i] ⟨f,d,b⟩then i+1 else atN ⟨f,d,b⟩ l i):=af;clear T af hc e0 e1 e2 HL HX;generalize l[i]=it at *;generalize hls:ni it ⟨f,d,b⟩=ls at *;obtain⟨ik,itx,iv⟩:=it;simp only at c0 c1 c2 hk ar;rcases hk with hk|⟨hk,bs⟩|⟨hk,bs,hk3⟩<;>cases ls <;>
    .go_wp2
     go_region
     all_goals
      go_wp2_with fail
      go_region_with (go_at_call 106;refine(ar _).mono ?_;rintro e w2 ⟨rfl,b2⟩)
      all_goals
       go_wp2_with fail
       refine⟨⟨i+1,by omega,by go_num,?_,bt.out,a1.out.drew.drew.trans (b2.mono a1.out.drew.drew.size)⟩,by simp[intOf];omega⟩;rw[bv.out];simp
  .have bo:i=n:=by omega
   subst bo;have hm:=FV ⟨f,d,b⟩ l i;have HP:Hid (aZ l ⟨f,d,b⟩=l.take (atN ⟨f,d,b⟩ l i)++⟨f,d,b⟩::l.drop (atN ⟨f,d,b⟩ l i)):=by
    show aZ l ⟨f,d,b⟩=_;unfold aZ;rw[if_neg,HN.out];intro h;have⟨z,hz,e⟩:=List.any_eq_true.1 h;obtain⟨j,hj,rfl⟩:=gM hz;rw[a3.out j hj (by rw[<-HN.out];exact hj)]at e;cases e
   generalize atN ⟨f,d,b⟩ l i=m at *;have A:=HH.out;rw[HN.out]at A;rcases A.2 with⟨hv,h0⟩|⟨g,V,G,hv,-,-,bk,bd,-⟩
   .subst h0;injection hv with hv1 _ hv2
    subst hv1;subst hv2;have bw:m=0:=by omega
    subst bw;clear HX HL A;have bb:l=[]:=List.length_eq_zero_iff.1 HN.out;subst bb
    go_upto_region 12 with fail
    have ap:Hid (∀j u,[Value.int K f,U d,I K b][j]?=J u->(wr.alloc (E #[I K f,U d,I K b] 117)).cell? ((⟨wr.heap.size,0,N⟩:Addr).add j)=J u):=lW wr (I K f) (U d) (I K b) 117;have F:wr.heap.size<=(wr.alloc (E #[I K f,U d,I K b] 117)).heap.size:=by simp
    have bn:Hid (Below wr.heap.size wr (wr.alloc (E #[I K f,U d,I K b] 117))):=(bR _ wr).alloc (lR _) _
    go_upto_region 13 with(at_builtin;go_loud (refine wpList_append_own _ rfl _ _ 44 rfl wr.heap.size 117 i0 _ 3 32 (Yq.u underlying44) P R X H rfl (by decide) _ 0 [] rfl (World.ownsRow_nil _ _ _ _) ⟨wr.heap.size,0,N⟩ 1 1 [I K f,U d,I K b] rfl rfl ap.out (by simp[Value.oneCell']) (by simp only[maxLen];omega) (by omega) F ?_);intro v2 w2 y aa _;obtain⟨ab,Q,rfl,-⟩:=az y)
    have p:Hid (Below wr.heap.size wr w2/\w2.ownsRow wr.heap.size 117 3 (M ab (0+1) Q) (0+1) [I K f,U d,I K b]):=⟨bn.out.grown (row:=N) aa F (λk e=>by cases e),by simpa using y⟩;obtain⟨g2,cap2,b1,-⟩:=cW p.out.2 (by omega);have hcap:1<=Q:=by
     rcases p.out.2.2 with⟨hv,h0⟩|⟨g,V,G,hv,-,-,bk,bd,-⟩
     .cases h0
     .injection hv with hv1 _ hv2
      omega
    clear y aa;cases b1;go_wp2_with fail
    go_ret;refine⟨_,rfl,?_,HB.out.trans (p.out.1.mono HB.out.size)⟩;rw[HP.out];have o:=p.out.2;exact⟨o.1,o.2.imp id λ⟨g,V,G,e,hb,r⟩=>⟨g,V,G,e,lT hB (lT HB.out.size hb),r⟩⟩
   .injection hv with hv1 _ hv2
    subst hv1;subst hv2;clear HX HL A;have hmc:m<=c:=by omega
    have hmc':(m:Int)<=c:=by omega
    have bp:(an (l.take m)).length=m*3:=by rw[eC,tL,HN.out];congr 1;omega
    have bi:Hid (∀t u,(an (l.take m))[t]?=J u->wr.cell? ((⟨g,0,N⟩:Addr).add t)=J u):=λt u ht=>by
     refine ah HB.out (HH.out.cells (g:=g) rfl t u ?_);have h3:an (l.take m)=(an l).take (m*3):=(gC 3 _ (λ_=>rfl) l m).symm;rw[h3,List.getElem?_take]at ht;split at ht
     .exact ht
     .cases ht
    go_upto_region 12 with(at_builtin;go_loud (refine wpList_append_own _ rfl _ _ 44 rfl wr.heap.size 117 i0 _ 3 32 (Yq.u underlying44) P R X H rfl (by decide) _ 0 [] rfl (World.ownsRow_nil _ _ _ _) ⟨g,0,N⟩ m c (an (l.take m)) rfl bp bi.out (jd _) (by simp only[maxLen];omega) (by omega) (lR _) ?_);intro v1 w1 ac a6 _;obtain⟨a7,a8,rfl,-⟩:=az ac)
    have s:Hid (Below wr.heap.size wr w1/\w1.ownsRow wr.heap.size 117 3 (M a7 m a8) m (an (l.take m))):=⟨(bR _ wr).grown (row:=N) a6 (lR _) (λk e=>by cases e),by simpa using ac⟩;clear ac a6;replace x0:=ah s.out.1 x0;replace x1:=ah s.out.1 x1;replace x2:=ah s.out.1 x2;have ad:Hid ((w1.alloc (E #[I K f,U d,I K b] 117)).ownsRow wr.heap.size 117 3 (M a7 m a8) m (an (l.take m))/\Below wr.heap.size wr (w1.alloc (E #[I K f,U d,I K b] 117))):=⟨s.out.2.alloc _,s.out.1.alloc s.out.1.size _⟩;have ap:Hid (∀j u,[Value.int K f,U d,I K b][j]?=J u->(w1.alloc (E #[I K f,U d,I K b] 117)).cell? ((⟨w1.heap.size,0,N⟩:Addr).add j)=J u):=lW w1 (I K f) (U d) (I K b) 117;have F:=ad.out.2.size
    go_upto_region 13 with(at_builtin;go_loud (refine wpList_append_own _ rfl _ _ 44 rfl wr.heap.size 117 i0 _ 3 32 (Yq.u underlying44) P R X H rfl (by decide) _ m _ rfl ad.out.1 ⟨w1.heap.size,0,N⟩ 1 1 [I K f,U d,I K b] rfl rfl ap.out (by simp[Value.oneCell']) (by simp only[maxLen];omega) (by omega) F ?_);intro v2 w2 y aa _;obtain⟨ab,Q,rfl,-⟩:=az y)
    have p:Hid (Below wr.heap.size wr w2/\w2.ownsRow wr.heap.size 117 3 (M ab (m+1) Q) (m+1) (an (l.take m)++[I K f,U d,I K b])):=⟨ad.out.2.grown aa F (λk e=>(s.out.2.lt k e).1),y⟩;clear y aa;obtain⟨q,T⟩:∃q,i=m+q:=⟨i-m,by omega⟩;have av:(an (l.drop m)).length=q*3:=by rw[eC,lD,HN.out];congr 1;omega
    have a4:Hid (∀a:Addr,(a=⟨g,m*3,N⟩\/q=0)->∀t u,(an (l.drop m))[t]?=J u->w2.cell? (a.add t)=J u):=λa ha t u ht=>by
     rcases ha with rfl|h0
     .have h3:an (l.drop m)=(an l).drop (m*3):=(gE 3 _ (λ_=>rfl) l m).symm;rw[h3,List.getElem?_drop]at ht;have:=ah p.out.1 (ah HB.out (HH.out.cells (g:=g) rfl _ u ht));rw[Addr.add_lit]at this ⊢;simpa using this
     .have:an (l.drop m)=[]:=List.eq_nil_of_length_eq_zero (by omega);rw[this]at ht;simp at ht
    have L:=p.out.1.size;have a2:Hid (∀ (v3:Wx) (w3:Wj),w3.ownsRow wr.heap.size 117 3 v3 (m+1+q) ((an (l.take m)++[I K f,U d,I K b])++an (l.drop m))->w2.grownBy w3 (Value.slice ab (m+1) Q).ownBlock->w3.ownsRow B 117 3 v3 (aZ l ⟨f,d,b⟩).length (an (aZ l ⟨f,d,b⟩))/\Below w.heap.size w w3):=λv3 w3 o S=>by
     have b3:Below wr.heap.size wr w3:=p.out.1.grown S L (λk e=>(p.out.2.lt k e).1);refine⟨?_,HB.out.trans (b3.mono HB.out.size)⟩;rw[HP.out];have e1:(l.take m++⟨f,d,b⟩::l.drop m).length=m+1+q:=by rw[lP,lC,tL,lD,HN.out];omega
     have e2:an (l.take m++⟨f,d,b⟩::l.drop m)=(an (l.take m)++[I K f,U d,I K b])++an (l.drop m):=by simp[an]
     rw[e1,e2];exact⟨o.1,o.2.imp id λ⟨g,V,G,e,hb,r⟩=>⟨g,V,G,e,lT hB (lT HB.out.size hb),r⟩⟩
    have h1000:m+q<=1000:=by omega
    have hqc:m+q<=c:=by omega
    rw[T]at *;clear T;by_cases b0:c=m
    .have bx:q=0:=by omega
     subst bx;subst b0;go_wp2_with (at_builtin;go_loud (refine wpList_append_own _ rfl _ _ 44 rfl wr.heap.size 117 i0 _ 3 32 (Yq.u underlying44) P R X H rfl (by decide) _ _ _ rfl p.out.2 ⟨g,0,N⟩ 0 0 (an (l.drop c)) rfl av (a4.out _ (Or.inr rfl)) (jd _) (by simp only[maxLen];omega) (by omega) L ?_);intro v3 w3 o S _;obtain⟨bl,be,rfl,-⟩:=az o)
     go_ret;exact⟨_,rfl,a2.out _ _ o S⟩
    .go_wp2_with (at_builtin;go_loud (refine wpList_append_own _ rfl _ _ 44 rfl wr.heap.size 117 i0 _ 3 32 (Yq.u underlying44) P R X H rfl (by decide) _ _ _ rfl p.out.2 ⟨g,m*3,N⟩ q (c-m) (an (l.drop m)) rfl av (a4.out _ (Or.inl rfl)) (jd _) (by simp only[maxLen];omega) (by omega) L ?_);intro v3 w3 o S _;obtain⟨bl,be,rfl,-⟩:=az o)
     go_ret;exact⟨_,rfl,a2.out _ _ o S⟩
def Je(w:Wj)(v:Wx)(its:List ItD):Prop:=∃a c,v=M a its.length c/\(its≠[]->∃g o,a=J ⟨g,o,N⟩/\∀j,j<its.length*3->w.cell? ⟨g,o+j,N⟩=(an its)[j]?)
theorem gi.o{w:Wj}{v:Wx}(h:gi w v its):Je w v its:=by
 obtain⟨a,c,rfl,e⟩:=h.form;refine⟨a,c,rfl,λb=>?_⟩;obtain⟨g,rfl,d⟩:=e b;exact⟨g,0,rfl,λj f=>by rw[zA];exact d j f⟩
theorem mr(F z:Wx)(f:List ItD)(w:Wj)(B:gi w F f)(P:Je w z f)(Q:f.length<=100000):
  Calls Yq.prog 60 #[F,z] w λe L=>e=.returned (C Y)/\Below w.heap.size w L:=by
 obtain⟨a,c,rfl,A⟩:=B.form;obtain⟨b,d,rfl,y⟩:=P;have HX:Hid (f≠[]->∃g,a=J ⟨g,0,N⟩/\∀j,j<f.length*3->w.cell? ⟨g,j,N⟩=(an f)[j]?):=A;have HY:Hid (f≠[]->∃g o,b=J ⟨g,o,N⟩/\∀j,j<f.length*3->w.cell? ⟨g,o+j,N⟩=(an f)[j]?):=y;clear A y B;obtain⟨n,s⟩:∃n,f.length=n:=⟨_,rfl⟩;have HN:Hid (f.length=n):=s;rw[s]at Q ⊢;clear s;go_enter (Yq.nq func60),ntmps60;go_wp2_with fail
 go_loopw [5] (λs5 wr=>∃i:Nat,i<=n/\s5=I K i/\Below w.heap.size w wr) (λs5 _=>n-(intOf s5).toNat)
 case atStart=>exact⟨0,Nat.zero_le _,rfl,bR _ _⟩
 case round=>
  obtain⟨i,hin,rfl,h⟩:=hrel;by_cases r:i<n
  .have l:i<f.length:=by rw[HN.out];exact r
   have m:f≠[]:=by intro e;rw[e]at l;simp at l
   obtain⟨g,rfl,p⟩:=HX.out m;obtain⟨g',of,rfl,k⟩:=HY.out m;have⟨q,t,v⟩:=mm f i l;have S:=ah h ((p (i*3) (by omega)).trans q);have T:=ah h ((p (i*3+1) (by omega)).trans t);have G:=ah h ((p (i*3+2) (by omega)).trans v);have H:=ah h ((k (i*3) (by omega)).trans q);have D:=ah h ((k (i*3+1) (by omega)).trans t);have x:=ah h ((k (i*3+2) (by omega)).trans v);rw[<-Nat.add_assoc]at D x;generalize f[i]=R at *;obtain⟨kind,text,ver⟩:=R;simp only at S T G H D x;have HB:Hid (Below w.heap.size w wr):=h;clear h p k q t v HX HY;go_wp2
   go_region
   all_goals
    go_wp2;exact⟨⟨i+1,by omega,by go_num,HB.out.drew⟩,by simp[intOf];omega⟩
  .have u:i=n:=by omega
   subst u;have HB:Hid (Below w.heap.size w wr):=h;clear h;go_wp2;go_ret;exact⟨rfl,HB.out⟩
theorem mt(l:List ItD)(x:ItD):(aZ l x).length<=l.length+1:=by
 unfold aZ;split
 .omega
 .rw [lP,lC,tL,lD];omega
theorem rJ:∀ (m l:List ItD),(m.foldl aZ l).length<=l.length+m.length
 | [],l=>by simp
 |x::m,l=>by
  have h1:=rJ m (aZ l x);have h2:=mt l x;rw[List.foldl_cons,lC];omega
theorem uB(b:Bool)(k:List UInt8)(h:List Ver)(a:h≠[]):(bj b k h).length<=h.length:=by
 have:=List.length_pos_iff.2 a;unfold bj;split
 .simp
 .simp;omega
theorem zZ(q:Qy)(l:List ItD)(a:List UInt8×List Ver)(b:a.2≠[]):(eq q l a).length<=l.length+a.2.length:=by
 have h0:=List.length_pos_iff.2 b;unfold eq;split
 .split
  .rename_i c _;have:=mt l ⟨2,⟨c.toArray⟩,0⟩;omega
  .have d:=rJ (bj q.vs a.1 a.2).reverse l;have h2:=uB q.vs a.1 a.2 b;rw[List.length_reverse]at d;omega
 .omega
theorem xZ(q:Qy):∀ (R:KVs)(l:List ItD),(∀a∈R,a.2≠[])->(R.foldl (eq q) l).length<=l.length+fH R
 | [],l,_=>by simp[fH]
 |a::R,l,h=>by
  have h1:=xZ q R (eq q l a) (λx b=>h x (by simp[b]));have h2:=zZ q l a (h a (by simp));have e:fH (a::R)=a.2.length+fH R:=by simp[fH]
  rw[List.foldl_cons,e];omega
def mu(e:bD):List UInt8×List Ver:=(e.key.data.toList,e.h)
def bJ(q:Qy)(R:List bD)(i:Nat):List ItD:=fe q ((R.take i).map mu)
theorem Aa(q:Qy)(R:List bD)(i:Nat)(h:i<R.length):bJ q R (i+1)=eq q (bJ q R i) (mu R[i]):=by
 unfold bJ fe;rw[tS h,List.map_append,List.foldl_append];rfl
theorem Fo(R:List bD):fH (R.map mu)=totR R:=by
 unfold fH totR;rw[List.map_map];rfl
theorem CS(q:Qy)(R:List bD)(i:Nat)(h:∀e∈R,e.h≠[]):(bJ q R i).length<=totR R:=by
 have b:=xZ q ((R.take i).map mu) [] (λkh a=>by
  obtain⟨e,c,rfl⟩:=List.mem_map.1 a;exact h e (List.mem_of_mem_take c))
 rw[Fo]at b;have h2:=gQ R i;unfold bJ fe;simp only[lN]at b;omega
theorem CT{h:St}{R:List bD}{r:Int}(S:Sim h R r)(q:Qy)(o:∀k,(h.f k).Pairwise λa b=>a.num<b.num)(d:∀k,h.f k≠[]->k.length<=40):fe q (R.map mu)=bH q (cz h.f q.p.data.toList):=by
 refine wC q h.f (R.map mu) o d (λkh l=>?_) λk n=>?_
 .obtain ⟨e,c,rfl⟩:=List.mem_map.1 l;have m:=S.here e c;exact⟨m.symm,λi=>S.full e c (m.symm.trans i)⟩
 .refine Classical.byContradiction λj=>n (S.gone k λe c i=>j ?_)
  refine List.mem_map.2 ⟨e,c,?_⟩;unfold mu;rw[i,<-S.here e c,i]
theorem wH{q:Qy}(h:q.p.data.toList.isPrefixOf a.1=Z\/fZ q a.1 a.2=Z):eq q l a=l:=by
 unfold eq;rw[if_neg];rcases h with h|h<;>simp[h]
theorem rK{q:Qy}{c:List UInt8}(b:q.p.data.toList.isPrefixOf a.1=Y)(d:fZ q a.1 a.2=Y)(e:aU q a.1=J c):eq q l a=aZ l ⟨2,⟨c.toArray⟩,0⟩:=by
 unfold eq;rw[if_pos (by simp[b,d]),e]
theorem Ab{q:Qy}(a:q.p.data.toList.isPrefixOf kh.1=Y)(b:fZ q kh.1 kh.2=Y)(c:aU q kh.1=N):eq q l kh=(bj q.vs kh.1 kh.2).reverse.foldl aZ l:=by
 unfold eq;rw[if_pos (by simp[a,b]),c]
def dI(a:Bool)(k:List UInt8)(h:List Ver)(l:List ItD)(j:Nat):List ItD:=if a then((h.take j).map (eD k)).foldl aZ l else if j<h.length then l else aZ l ⟨1,⟨k.toArray⟩,(nd h).num⟩
theorem Ad(b:Bool)(k:List UInt8)(h:List Ver)(a:h≠[])(l:List ItD):dI b k h l 0=l:=by
 unfold dI;split
 .rfl
 .rw [if_pos (List.length_pos_iff.2 a)]
theorem CU(a:Bool)(k:List UInt8)(h:List Ver)(l:List ItD):dI a k h l h.length=(bj a k h).reverse.foldl aZ l:=by
 unfold dI bj;split
 .rw [List.take_length,<-List.map_reverse,List.reverse_reverse]
 .rw [if_neg (Nat.lt_irrefl _)];rfl
theorem Fq(k:List UInt8)(h:List Ver)(l:List ItD)(j:Nat)(a:j<h.length):dI Y k h l (j+1)=aZ (dI Y k h l j) (eD k h[j]):=by
 unfold dI;simp only[if_true];rw[tS a,List.map_append,List.foldl_append];rfl
theorem CW(k:List UInt8)(h:List Ver)(l:List ItD)(j:Nat)(a:j+1<h.length):dI Z k h l (j+1)=dI Z k h l j:=by
 unfold dI;simp only[Bool.false_eq_true,if_false];rw[if_pos a,if_pos (by omega)]
theorem Ae(k:List UInt8)(h:List Ver)(l:List ItD)(j:Nat)(hj:j+1=h.length):dI Z k h l (j+1)=aZ (dI Z k h l j) ⟨1,⟨k.toArray⟩,(h[j]'(by omega)).num⟩:=by
 have e:(nd h)=h[j]'(by omega):=by
  unfold nd;rw[List.getLast?_eq_getElem?,show h.length-1=j by omega,eL (by omega)];rfl
 unfold dI;simp only[Bool.false_eq_true,if_false];rw[if_neg (by omega),if_pos (by omega),e]
theorem CX(b:Bool)(k:List UInt8)(h:List Ver)(a:h≠[])(l:List ItD)(j:Nat):(dI b k h l j).length<=l.length+h.length:=by
 have h0:=List.length_pos_iff.2 a;unfold dI;split
 .have:=rJ ((h.take j).map (eD k)) l;rw[lM,tL]at this;omega
 .split
  .omega
  .have:=mt l ⟨1,⟨k.toArray⟩,(nd h).num⟩;omega
end
