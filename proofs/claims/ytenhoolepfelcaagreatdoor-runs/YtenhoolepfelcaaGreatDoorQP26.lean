/- A part. -/
import Derived.Test.YtenhoolepfelcaaGreatDoorQP23
import Derived.Test.YtenhoolepfelcaaGreatDoorQP24
import Derived.Test.YtenhoolepfelcaaGreatDoorQP25
set_option maxHeartbeats 4000000
set_option maxRecDepth 100000
open List renaming getElem?_map->dT,mem_of_mem_take->ey,getElem_mem->eV
open Go renaming World->Wj
namespace Go.Proofs.Qw
open _root_ renaming rfl->Q
open _root_ renaming Nat->H,List->S
open Option renaming none->N,some->J
open Bool renaming true->Y,false->Z
open Value renaming int->I,slice->M,bool->C
open IntKind renaming i64->K
open Obj renaming cells->E
open Ending renaming returned->Nm
open Or renaming inl->Qc,inr->Qd
open Tryz
section
open Go.Conc Go.ConcX Go.ConcX.Gen Go.RowKit
theorem wV(Qok:Qy->Prop)(p:∀q,Qok q->jc q/\jd q)(G:Wj->Prop)(N:H)(A:N<2199023255300)(d:∀e,G e->dE e)(a:∀n b:Int,0<=n->n<=N->0<=b->b<=N+1->mq G n b):wo Qok LJ G N:=
 Fd LJ (λh s o x f j u _ t=>BM h s o x f j u t) (λh y o _ hk k s v z r i m l c=>ze h y o hk k s v z r i m l c) Qok p G N A d a
end
section
open Go.RowKit
open Go.Conc Go.ConcX Go.ConcX.Gen
theorem Fw N(d:N<2199023255300):LK Ff N:=
 wV Cx (λq _=>IZ q) Ff N d (λ_ h=>h.1) λn b a h2 c h4 l w e=>J4 n b ⟨a,by omega⟩ ⟨c,by omega⟩ l w e.2
end
section
open Go.RowKit
def Fx(ops:S OpD):Prop:=∀i (hi:i<ops.length),ops[i].kind=12->∃j,∃hj:j<i,ops[i].src=(j:Int)/\(ops[j]'(by omega)).kind=11
theorem mE(ops:S OpD)(i:H)(a:i<ops.length):cW (ops.take (i+1))=gy (ops.take i) (cW (ops.take i)) ops[i]:=by
 rw[tS a,mA]
section
variable {ops:List OpD} (hk:∀o∈ops,o.key.size<=maxLen)
include hk
theorem hE i:HU Cx (cW (ops.take i)) (ops.take i).length:=oM (Qok:=Cx) (ops.take i) λo a=>⟨Fo o,hk o (ey a)⟩
theorem hF i:I0 (cW (ops.take i)):=Iq (Qok:=Cx) (ops.take i) λo a=>⟨Fo o,hk o (ey a)⟩
theorem wW{i j:H}(hi:i<ops.length)(m:j<i)(f:ops[i].kind=12)(c:ops[i].src=(j:Int))(b:(ops[j]'(by omega)).kind=11):
  iH (ops.take i) (cW (ops.take i)) ops[i]=((cW (ops.take j)).st,{(cW (ops.take i)).L with opened:=[],tm:=(cW (ops.take j)).L.tm},⟨0,0,⟨#[]⟩,[],⟨#[]⟩⟩):=by
 have a:j<ops.length:=by omega
 have e:(ops.take i).length=i:=by grind
 have k:(cW (ops.take i)).al[j]?=J ⟨0,0,fI (cW (ops.take j)).st (cW (ops.take j)).L.tm,[],⟨#[]⟩⟩:=by
  rw[wU (ops.take i) (j+1) j (by omega) (by omega),List.take_take,Nat.min_eq_left (by omega),mE ops j a];have h:(cW (ops.take j)).al.length=j:=by rw[j9,tL];omega
  simp[gy];rw[List.getElem?_append_right (by omega),h,Nat.sub_self];simp[iH,nk,Mu,b]
 have o:dM ((ops.take i).map (·.kind)) (cW (ops.take i)).MT ops[i].src ops[i].body=fI (cW (ops.take j)).st (cW (ops.take j)).L.tm:=by
  unfold dM;have d:(cW (ops.take i)).MT.length=i:=by rw[Dk.MT,lM,j9,e]
  rw[c,d,if_pos (by omega),Int.toNat_natCast,dT,List.getElem?_take_of_lt m,eL a,Option.map_some,Option.getD_some,if_pos b,Dk.MT,dT,k];rfl
 have n:=(hF hk j).tm;have l:=EB (hE hk j).i (hE hk j).t (hF hk j).s (cW (ops.take j)).L.tm.toNat (by omega);rw[Int.toNat_of_nonneg n.1]at l;simp only[iH,nk,if_pos f,o,dx,l]
omit hk in
theorem sg{i:H}(hi:i<ops.length)(a:ops[i].kind≠12):iH (ops.take i) (cW (ops.take i)) ops[i]=Mu (cW (ops.take i)).st (cW (ops.take i)).L (cW (ops.take i)).Mq ops[i]:=by
 simp only[iH,nk,if_neg a]
theorem L6(d:Fx ops):∀n i,i<=n->i<=ops.length->(cW (ops.take i)).st.last<=i:=λn=>by
  induction n with
  | zero => intro i h _; obtain rfl : i = 0 := by omega
            simp[cW,je,dk0,st0]
  |succ n ih=>
    intro i hin e;by_cases b:i<=n
    . exact ih i b e
    . obtain rfl:i=n+1:=by omega
      rw[mE ops n (by omega)];by_cases a:(ops[n]'(by omega)).kind=12
      . have⟨j,f,c,k⟩:=d n (by omega) a
        show(iH _ _ _).1.last<=_;rw[wW hk (by omega) f a c k];have:=ih j (by omega) (by omega);show(cW (ops.take j)).st.last<=_;omega
      . show(iH _ _ _).1.last<=_
        rw[sg (by omega) a];have c:=ih n (lR _) (by omega);have:=Fh (cW (ops.take n)).st (cW (ops.take n)).L (cW (ops.take n)).Mq (ops[n]'(by omega)) (hE hk n).i.MN;omega
end
structure ZrE (ops:S OpD)(i:H)(Z:S SvE):Prop where
 pw:Z.Pairwise (λa b=>a.at_<b.at_)
 len:Z.length<=i
 ok:∀z∈Z,z.at_<i/\Sim (cW (ops.take z.at_)).st z.R z.nx/\z.tm=(cW (ops.take z.at_)).L.tm/\0<=z.tm/\z.tm<=1000*i
 all:∀j (_:j<ops.length),j<i->ops[j].kind=11->∃z∈Z,z.at_=j
section
variable {ops:List OpD} {i:Nat} {Z:List SvE}
theorem ZrE.Mr(h:ZrE ops i Z)(hi:i<ops.length)(hk:ops[i].kind≠11):ZrE ops (i+1) Z:=
 ⟨h.pw,by have:=h.len;omega,λz k=>by have⟨h1,d,b,f,h5⟩:=h.ok z k;exact⟨by omega,d,b,f,by omega⟩,λj c hlt a=>by
  by_cases e:j=i
  .subst e;exact absurd a hk
  .exact h.all j c (by omega) a⟩
theorem ZrE.push(h:ZrE ops i Z){l:Value}{R}{k c}(hS:Sim (cW (ops.take i)).st R k)(ht:(cW (ops.take i)).L.tm=c/\0<=c/\c<=1000*i):ZrE ops (i+1) (Z++[⟨i,l,R,k,c⟩]):=by
 refine⟨List.pairwise_append.2 ⟨h.pw,List.pairwise_singleton _ _,λa n b q=>?_⟩,by rw[lP,lS];have:=h.len;omega,λz d=>?_,λj m hlt f=>?_⟩
 .rw [List.mem_singleton.1 q];exact(h.ok a n).1
 .rcases List.mem_append.1 d with d|d
  .have ⟨p,o,h3,h4,h5⟩:=h.ok z d
   grind
  .grind
 .by_cases e:j=i
  .simp_all
  .have ⟨z,p,o⟩:=h.all j m (by omega) f
   grind
theorem ZrE.uniq(h:ZrE ops i Z){j b:H}(ha:j<Z.length)(hb:b<Z.length)(e:Z[j].at_=Z[b].at_):j=b:=by
 have hp:=List.pairwise_iff_getElem.1 h.pw
 grind
end
theorem Fy(b B ab ga:H)(ops:S OpD)(v:S (mu×Value))(w:Wj)(hS:j3 w b B ops)(aa:ops.length*88<=140737488351232)(n:v.map (·.1)=(cW ops).al)(hA:∀j,j<ops.length*5->w.cell? ⟨ga,j,N⟩=(bu v)[j]?)(hI:∀z∈v,g8 w z.2 z.1.items)(hk:∀o∈ops,o.key.size<=maxLen/\o.eQ.size<=140737488351232)(hg:Fx ops):
  Calls Yq.prog 7 #[M (J ⟨b,B,N⟩) ops.length ab,M (J ⟨ga,0,N⟩) ops.length ops.length] w λe w'=>e=Nm (C Y)/\Below w.heap.size w w':=by
 have ap:v.length=ops.length:=by
  have:=congrArg List.length n;rw[lM,j9]at this;exact this
 have u:=λo ho=>(hk o ho).1
 refine Il b B ab ga ops v (λi=>((cW (ops.take i)).st,(cW (ops.take i)).L)) (ZrE ops) w hS aa ap hA (λz n=>?_) Q ⟨List.Pairwise.nil,lR _,λz n=>absurd n List.not_mem_nil,λj _ h=>absurd h (by omega)⟩ ?_
 .obtain ⟨a,c,e,-⟩:=(hI z n).form
  grind
 .intro i s X W sl vL vT R nx tm P T hb f hP d SL Z p G vA hK;have af:=eV s;have D:(ops.take i).length=i:=by rw[tL];omega
  have m:=hE u i;rw[D]at m;have ar:v[i].1=(iH (ops.take i) (cW (ops.take i)) ops[i]).2.2:=by
   have x:=wU ops (i+1) i (by omega) s;rw[mE ops i s,<-n,dT,eL X]at x;have hl:(cW (ops.take i)).al.length=i:=by rw[j9,D]
   simp[gy]at x
   grind
  have ai:(v.take i).map (·.1.tok)=(cW (ops.take i)).Mq:=by
   have⟨r,hr⟩:=qu (ops.take i) (ops.drop i);rw[List.take_append_drop,<-n]at hr;have x:=congrArg (List.take i) hr;rw[List.take_left' (by rw[j9,D]),<-List.map_take]at x;unfold Dk.Mq;rw[<-x,List.map_map];rfl
  rw[ai]at hK;have k:=hI _ (eV X);rw[ar]at k ⊢;have aj:(cW (ops.take i)).Mq.length=i:=by
   grind
  have F:i<2199023255300:=by omega
  simp[mE ops i s];show Calls _ _ _ W (cK _ _ (iH _ _ _).1 (iH _ _ _).2.1 _ i W);by_cases q:ops[i].kind=12
  .have ⟨j,hj,x,h2⟩:=hg i s q;rw[wW u s hj q x h2]at k ⊢;obtain⟨ia,ic,y,-⟩:=k.form;rw[y];have⟨z,V,ad⟩:=p.all j (by omega) hj h2;obtain⟨jj,ac,rfl⟩:=gM V;obtain⟨-,s1,s2,s3,s4⟩:=p.ok _ V;rw[ad]at s1 s2;have:=Cs (st2:=(cW (ops.take j)).st) W f hP (lR _) SL G (p.Mr s (by omega)) F p.len ops[i] q (λz n=>⟨(p.ok z n).2.1.full,(p.ok z n).2.1.MO⟩) jj ac (by rw[x,ad]) (λa ha e=>p.uniq ha ac e) s1 ⟨s3,s4⟩ ia ic;rw[s2]at this;exact this
  .rw [sg s q]at k ⊢;by_cases A:ops[i].kind=11
   .have e:Mu (cW (ops.take i)).st (cW (ops.take i)).L (cW (ops.take i)).Mq ops[i]=((cW (ops.take i)).st,(cW (ops.take i)).L,⟨0,0,fI (cW (ops.take i)).st (cW (ops.take i)).L.tm,[],⟨#[]⟩⟩):=by simp[Mu,A]
    rw[e]at k ⊢;obtain⟨ia,ic,y,-⟩:=k.form;rw[y];exact Cq W f hP hK (lR _) d SL G (λsl' R' hs=>by rw[aj];exact p.push (d.same hs) SL.time) F p.len ops[i] A _ ia ic
   .exact zd W f hP hK (lR _) d SL G (p.Mr s A) m.i (L6 u hg i i (lR _) (by omega)) m.t m.l.len F (by omega) ops[i] (by unfold Fg;omega) (hk _ af).2 v[i].2 (λw' hf=>k.left (ay.below (hf.toPFw.to hb hb.size)))
theorem LE ops(c:Sized ops)(b:∀o∈ops,o.eQ.size<=140737488351232):∀o∈dv 12 ops,(o.key.size<=maxLen/\o.body.size<=maxLen)/\o.eQ.size<=140737488351232:=by
 refine Fj ops λl o a=>?_
 unfold kC;split
 .exact ⟨⟨by simp[maxLen];decide,by simp[maxLen];decide⟩,by decide⟩
 .exact ⟨c o a,b o a⟩
theorem Fz ops:Fx (dv 12 ops):=by
 have:∀n,n<=ops.length->Fx (dv 12 (ops.take n)):=λn=>by
  induction n with
  |zero=>intro _ i k;simp[dv]at k
  |succ n ih=>
   intro hn i k a;have ih:=ih (by omega);have hl:(dv 12 (ops.take n)).length=n:=by rw[qt,tL];omega
   have e:dv 12 (ops.take (n+1))=dv 12 (ops.take n)++[kC 12 (dv 12 (ops.take n)) ops[n]]:=by rw[tS (by omega),r7]
   have f:∀j (h:j<(dv 12 (ops.take (n+1))).length) (l:j<n),(dv 12 (ops.take (n+1)))[j]=(dv 12 (ops.take n))[j]'(by omega):=λj h l=>by
    grind
   have hi':i<n+1:=by grind
   by_cases d:i<n
   .rw [f i k d]at a;have⟨j,hj,h1,l⟩:=ih i (by omega) a
    grind
   .obtain rfl:i=n:=by omega
    have m:(dv 12 (ops.take (i+1)))[i]=kC 12 (dv 12 (ops.take i)) ops[i]:=by
     grind
    rw[m]at a ⊢;unfold kC at a ⊢;split at a
    .exact absurd a (by decide)
    .rename_i b;rw[if_neg b];have c:jR (dv 12 (ops.take i)) ops[i]=false:=by
      grind
     unfold jR at c
     grind
 have:=this ops.length (lR _)
 grind
theorem FA{G:Wj->Prop}{c}(u:LK G c)(hN:c<2199023255300)a n l ops w(h:jC w (M a n l) ops)(hn:n*88<=140737488351232)(ac:n<=c)(hd:∀o∈ops,o.eQ.size<=140737488351232)(hG:∀i,ay w i->G i):
  Calls Yq.prog 4 #[M a n l,I K 12] w λe i=>(e=Nm (C Y)/\ay w i)\/Stop Cx e i:=by
 have F:n=ops.length:=by
  have⟨a',q,L,_⟩:=h.form;cases L;rfl
 have HS:Hid (jC w (M a n l) ops/\n=ops.length):=⟨h,F⟩;have HA:Hid (LK G c/\c<2199023255300/\n<=c/\(∀i,ay w i->G i)/\(∀o∈dv 12 ops,(o.key.size<=maxLen/\o.body.size<=maxLen)/\o.eQ.size<=140737488351232)/\Fx (dv 12 ops)):=⟨u,hN,ac,hG,LE ops h.sized hd,Fz ops⟩;have k:(dv 12 ops).length=n:=by rw[qt];exact F.s
 clear h F u hG hd;go_enter (Yq.nq func4),ntmps4;go_wp2_with fail
 refine(Ik 12 a n l ops w HS.o.1 hn).m ?_;rintro e P ⟨v',rfl,d,b1⟩;have S1:=yC d k.s (λo ho=>(HA.o.2.2.2.2.1 o ho).1) (by omega);obtain⟨va,vc,rfl,-⟩:=az d;have HX:Hid (jC P (M va n vc) (dv 12 ops)/\ay w P):=⟨S1,ay.below b1⟩;clear d S1 b1;generalize dv 12 ops=s at *;by_cases v:s=[]
 .subst v;rw[lN]at k;subst k;go_wp2_with fail
  refine(J7 va vc P).m ?_;rintro e w2 ⟨g,rfl,-,b2⟩;have HB:Hid (ay w w2):=HX.o.2.t (ay.below b2);clear b2;go_wp2_with fail
  refine(Fi va vc g w2).m ?_;rintro e w3 ⟨rfl,T⟩;have D:Hid (ay w w3):=HB.o.t (ay.below T);clear T;go_wp2_with fail
  go_ret;exact Qc ⟨Q,D.o⟩
 .have ⟨a',q,L,X⟩:=HX.o.1.form;obtain⟨b,V,rfl,R⟩:=X v;rw[k]at L;cases L;have HR:=Ev Cx LJ G c HA.o.1 b V vc s P (λi k=>HA.o.2.2.2.1 i (HX.o.2.t k)) R HX.o.1.sized (by omega) HA.o.2.1 (λo _=>Fo o) (λ_ _=>trivial);rw[k]at HR;clear X R;go_wp2_with fail
  refine HR.m ?_;clear HR;rintro e w2 (⟨A,zs,rfl,aa,p,f,-,l2⟩|B)
  rotate_left
  .obtain ⟨x,y,r,rfl,B⟩:=B;exact⟨Q,Qd ⟨x,y,r,Q,B⟩⟩
  have⟨a',q,L,X⟩:=(HX.o.1.left l2).form;have⟨b',off',ab,hS⟩:=X v;rw[k]at L;cases L;cases ab;have HF:=Fy b V vc P.heap.size s zs w2 hS (by rw[k];exact hn) aa (λj hj=>p.cellAt j hj) (λz hz=>(f z hz).Mt) (λo ho=>⟨(HA.o.2.2.2.2.1 o ho).1.1,(HA.o.2.2.2.2.1 o ho).2⟩) HA.o.2.2.2.2.2;have HB:Hid (ay w w2):=HX.o.2.t l2;rw[k]at HF ⊢;clear p f aa hS X l2;go_wp2_with fail
  refine HF.m ?_;rintro e w3 ⟨rfl,T⟩;have D:Hid (ay w w3):=HB.o.t (ay.below T);clear T HF;go_wp2_with fail
  go_ret;exact Qc ⟨Q,D.o⟩
theorem Ir{G:Wj->Prop}{N}(b:LK G N)(p:N<2199023255300)a n d ops w(h:jC w (M a n d) ops)(q:n*88<=140737488351232)(i:n<=N)(j:∀o∈ops,o.eQ.size<=140737488351232)(k:∀f,ay w f->G f):
  Calls Yq.prog 3 #[M a n d] w λe f=>(e=Nm (C Y)/\ay w f)\/Stop Cx e f:=by
 have HR:=FA b p a n d ops w h q i j k;clear h b j k;go_enter (Yq.nq func3),ntmps3;go_wp2_with fail
 refine HR.m ?_;rintro e w1 (⟨rfl,l⟩|c)
 .go_wp2_with fail
  go_ret;exact Qc ⟨Q,l⟩
 .obtain ⟨x,y,r,rfl,c⟩:=c;exact⟨Q,Qd ⟨x,y,r,Q,c⟩⟩
end
section
open Go.RowKit
open Go.Conc Go.ConcX Go.ConcX.Gen
theorem Is k i t ops W(a:W.ShapedOpen Tryz.prog)(d:tE W)(B:jC W (M k i t) ops)(l:∀b,slB k b->∃c e z,W.heap[b]?=J (E c e z))(u:∀o∈ops,o.eQ.size<=140737488351232)(n:i*88<=140737488351232):
  Fin Tryz.prog (λv W'=>v=C Y/\uW W W') #[G (Frame.enter Tryz.prog 3 #[M k i t] .normal) []] W none #[]:=by
 refine @Ju Bf Bg Gs Ss Rs As (KI Cx) env K6 JI Mb ⟨Q,Q,Q,Q⟩ (DM Cx (λq _=>IZ q)) JY (J3 Cx) 3 Tryz.f3 (cn Tryz.f3) func3 (Yq.nq func3) (by kernel_rfl) (by kernel_rfl) Q Q _ W _ (GW a (X:=λb=>slB k b) l) (λρ h=>?_) (λV f r s=>?_)
 .exact RVl.arr (.cons (L4 (λb y=>h b (Qd y)) _ _) .nil)
 .have A:Ff V:=Ff.MK (W:=W) ⟨J6 a,d⟩ (f.MK a);refine(Ir (G:=Ff) (N:=i+1) (Fw _ (by omega)) (by omega) _ _ _ ops (V.on r s) (B.clean f r s) n (by omega) u (λx j=>A.on j.block)).m ?_;rintro e x (⟨rfl,j⟩|p)
  .exact Qc ⟨Q,j.os,j.block⟩
  .exact Qd p
end
