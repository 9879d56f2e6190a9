/- A part. -/
import Derived.Test.YtenhoolepfelcaaGreatDoorQP11
set_option maxHeartbeats 4000000
set_option maxRecDepth 100000
open Go.Value renaming slice->dT
open Go.World renaming setCell->ey
open Go renaming World->Wj,Value->Wx
namespace Go.Proofs.Qw
open _root_ renaming rfl->Q
open _root_ renaming Nat->H,List->S
open Option renaming none->N,some->J
open Bool renaming false->Z
open Value renaming int->I,string->U,slice->M,pointer->O,bool->C,agg->Qa
open IntKind renaming i64->K
open Obj renaming cells->E
open Ending renaming returned->Nm
open Tryz
section
open Go.RowKit
structure Low (st:St)(s:H):Prop where
 MN:0<=st.last
 MQ:st.last<=s
theorem ER B k r R nx G d s f n0 n l w(a:aA B w k r R nx G)(c:Sim d R nx)(hI:Low d s)(hs:s<2199023255552)(hB:B<=w.heap.size)(hfull:¬200<=d.count):
  Calls Yq.prog 56 #[O (J ⟨k,0,N⟩),U f,Qa #[I K n0,U n,C l]] w (cy B k (bM d f n l) ⟨0,d.last+1,⟨#[]⟩⟩ w r R G):=by
 have⟨i0,bb,bi,bl,a6⟩:=info_parts Yq.Np;have⟨j0,a8,a9,a5,bk⟩:=info_parts Yq.Nw;have ap:=gB R c.full;have hlim:=c.MO;have hc:=c.count;have be:=a.lt;have c0:=a.cells.c0;have c1:=a.cells.c1;have f0:=a.cells.fz 0;have f1:=a.cells.fz 1;have HH:Hid (aA B w k r R nx G/\Sim d R nx):=⟨a,c⟩;have ht:¬(200:Int)<=(totR R:Int):=by omega
 have hnx:=c.next
 have l0:=hI.MN;have l1:=hI.MQ;clear a c;unfold cy;go_enter (Yq.nq func56),ntmps56;go_wp2_with fail
 refine(nu B k r R nx G _ ((HH.o.1.alloc _).alloc _) ap (by omega)).m ?_;rintro e w1 ⟨rfl,rfl⟩;have hk1:¬w.heap.size=k:=by omega
 have hk2:¬w.heap.size+1=k:=by omega
 go_wp2_with fail
 have H1:aA B (((w.setCell ⟨k,1,N⟩ (I K (d.last+1+1))).alloc (E #[I K (d.last+1),U n,C l] 130)).alloc (E #[I K 0,I K 0,U ⟨#[]⟩,M N 0 0,U ⟨#[]⟩] 46)) k r R (d.last+1+1) G:=((HH.o.1.N2 _).alloc _).alloc _;have RA:=IT ((w.setCell ⟨k,1,N⟩ (I K (d.last+1+1))).alloc (E #[I K (d.last+1),U n,C l] 130)) (w.heap.size+1) (by simp[ey]) 46;have CV:aY (((w.setCell ⟨k,1,N⟩ (I K (d.last+1+1))).alloc (E #[I K (d.last+1),U n,C l] 130)).alloc (E #[I K 0,I K 0,U ⟨#[]⟩,M N 0 0,U ⟨#[]⟩] 46)) w.heap.size (I K (d.last+1)) (U n) (C l):=by
  have h1:=(ix (w.setCell ⟨k,1,N⟩ (I K (d.last+1+1))) (I K (d.last+1)) (U n) (C l) 130).on ((bR _ _).alloc (lR _) (E #[I K 0,I K 0,U ⟨#[]⟩,M N 0 0,U ⟨#[]⟩] 46));simpa[ey]using h1
 have FR:bm w (((w.setCell ⟨k,1,N⟩ (I K (d.last+1+1))).alloc (E #[I K (d.last+1),U n,C l] 130)).alloc (E #[I K 0,I K 0,U ⟨#[]⟩,M N 0 0,U ⟨#[]⟩] 46)) k r R r R:=
  (B4 w k 1 _ (by omega) r R).below (((bR _ _).alloc (lR _) _).alloc (by simp) _) (by simpa[ey]using be)
 have ar:(((w.setCell ⟨k,1,N⟩ (I K (d.last+1+1))).alloc (E #[I K (d.last+1),U n,C l] 130)).alloc (E #[I K 0,I K 0,U ⟨#[]⟩,M N 0 0,U ⟨#[]⟩] 46)).heap.size=w.heap.size+2:=by simp[ey]
 have HF:=jL B k r R (d.last+1+1) G f _ H1 (by omega);generalize((w.setCell ⟨k,1,N⟩ (I K (d.last+1+1))).alloc (E #[I K (d.last+1),U n,C l] 130)).alloc (E #[I K 0,I K 0,U ⟨#[]⟩,M N 0 0,U ⟨#[]⟩] 46)=W0 at *;refine HF.m ?_;rintro e w2 ⟨rfl,V⟩;have HX:Hid (aA B W0 k r R (d.last+1+1) G/\kz (w.heap.size+1) W0/\aY W0 w.heap.size (I K (d.last+1)) (U n) (C l)/\bm w W0 k r R r R/\W0.heap.size=w.heap.size+2):=⟨H1,RA,CV,FR,ar⟩;clear H1 RA CV FR HF c0 c1 f0 f1 ar;have hE:∃ei:Int,e=Nm (I K ei)/\((∃ (i:H) (h:i<R.length),R[i].key=f/\ei=i)\/((∀x∈R,x.key≠f)/\ei=-1)):=by
  rcases V with⟨i,hi,hk,rfl⟩|⟨ai,rfl⟩
  .exact ⟨_,Q,Or.inl ⟨i,hi,hk,Q⟩⟩
  .exact ⟨_,Q,Or.inr ⟨ai,Q⟩⟩
 obtain⟨ei,rfl,A⟩:=hE;have a7:Hid ((∃ (i:H) (h:i<R.length),R[i].key=f/\ei=i)\/((∀x∈R,x.key≠f)/\ei=-1)):=A;clear V A
 go_upto_if 30 with fail
 go_cut [8] (λs8 wx=>∃i:H,s8=I K i/\Mid B k G d f n l w r R wx i)
 case first=>
  rcases a7.o with⟨i,hi,bn,rfl⟩|⟨ai,rfl⟩
  .go_wp2_with fail
   go_meet
   case rel=>exact⟨i,Q,H7 HH.o.1 HH.o.2 (by omega) hi bn HX.o⟩
  .obtain ⟨z,D,rfl,-⟩:=az HH.o.1.row;have b0:=HX.o.1.cells.c0;have b1:=HX.o.1.cells.fz 0;have L:Hid (∀X:Obj,(W0.alloc X).ownsRow B 140 2 (M z R.length D) R.length (aB R)):=λX=>HX.o.1.row.alloc X
   have P:Hid (∀T,∀j u,[U f,M N 0 0][j]?=J u->(W0.alloc (E #[U f,M N 0 0] T)).cell? ((⟨W0.heap.size,0,N⟩:Addr).add j)=J u):=λT j u hj=>by
    rw[Addr.add_lit,cA (w:=W0) _ _ W0.heap.size _ Q];simpa using hj
   have bo:Hid (∀q:Wj,(W0.alloc (E #[U f,M N 0 0] 140)).grownBy q (dT z R.length D).ownBlock->q.cell? ⟨k,0,N⟩=J (M z R.length D)/\q.frozen? ⟨k,0,N⟩=Z):=λq p=>by
    have hc:=(HX.o.1.alloc (E #[U f,M N 0 0] 140)).cells.grown p HX.o.1.apart;exact⟨hc.c0,hc.fz 0⟩
   have h5:B<=W0.heap.size:=by have:=HX.o.2.2.2.2;omega
   go_wp2_with (at_builtin;go_loud (refine wpList_append_lies _ Q _ _ 49 Q B 140 j0 _ 2 40 (Yq.u underlying49) a8 a9 a5 bk Q (by decide) (M z R.length D) R.length (aB R) Q (L.o _) ⟨W0.heap.size,0,N⟩ 1 1 [U f,M N 0 0] Q Q (P.o _) (by intro u hu;simp at hu;rcases hu with rfl|rfl<;>rfl) (by omega) (by simp only[maxLen];omega) (by omega) (by simp;omega) (W0.heap.size+1) (by simp) ?_);intro g ac q aj p ad a2;have⟨y0,y1⟩:=bo.o q p)
   go_meet
   case rel=>exact⟨R.length,by go_num,Lq HH.o.1 HH.o.2 (by omega) ai HX.o _ aj p ad⟩
 case rest=>
 obtain⟨i,rfl,a1⟩:=hcut;obtain⟨sl1,R1,hi,M1,M2,M3,M4,M5,M6,M7,M8,M9,M10,M11⟩:=a1;obtain⟨ge,aa,rfl,-,hgl,x0,x1⟩:=M1.Od i hi;have y:R1[i]∈R1:=List.getElem_mem hi;obtain⟨z,D,F,-⟩:=az (M1.MC R1[i] y);have b0:=M1.cells.c0;have v0:=M6.c0;have v1:=M6.c1;have v2:=M6.c2;have hkc:=M1.lt;have HY:Hid (aA B wc k (M (J ⟨ge,0,N⟩) R1.length aa) R1 (d.last+1+1) G/\kz (w.heap.size+1) wc/\aY wc w.heap.size (I K (d.last+1)) (U n) (C l)/\bm w wc k r R r R/\R1[i].v=M z R1[i].h.length D):=⟨M1,M5,M6,M7,F⟩;have HZ:Hid ((∀j (hj:j<R1.length),j≠i->R1[j].h≠[])/\(∀v',Sim (bM d f n l) (R1.set i ⟨R1[i].key,R1[i].h++[⟨d.last+1,n,l⟩],v'⟩) (d.last+1+1))/\(∀b,b<w.heap.size+2->(dT (J ⟨ge,0,N⟩) R1.length aa).ownBlock=J b->b<w.heap.size/\r.ownBlock=J b)/\(∀e∈R1,∀b,e.v.ownBlock=J b->b<w.heap.size/\∃e'∈R,e'.v.ownBlock=J b)/\w.heap.size+2<=wc.heap.size):=⟨M2,M9,M10,M11,M8⟩;have hge1:¬ge=w.heap.size:=λe=>by have:=(M10 ge (by omega) Q).1;omega
 have hge2:¬ge=w.heap.size+1:=λe=>by have:=(M10 ge (by omega) Q).1;omega
 have hBc:B<=wc.heap.size:=by omega
 rw[F]at x1;have x1a:=ag ((bR wc.heap.size wc).alloc (lR _) (E #[I K (d.last+1),U n,C l] 130)) x1;have b0a:=ag ((bR wc.heap.size wc).alloc (lR _) (E #[I K (d.last+1),U n,C l] 130)) b0;clear M1 M5 M6 M7 M2 M9 M10 M11 M8;have L:Hid (∀X:Obj,(wc.alloc X).ownsRow B 130 3 (M z R1[i].h.length D) R1[i].h.length (aw R1[i].h)):=λX=>by
  have:=(HY.o.1.MC _ y).alloc X
  rwa [HY.o.2.2.2.2]at this
 have P:Hid (∀T,∀j u,[I K (d.last+1),U n,C l][j]?=J u->(wc.alloc (E #[I K (d.last+1),U n,C l] T)).cell? ((⟨wc.heap.size,0,N⟩:Addr).add j)=J u):=λT=>news3 wc _ _ _ T
 have af:Hid (∀q:Wj,(wc.alloc (E #[I K (d.last+1),U n,C l] 130)).grownBy q (dT z R1[i].h.length D).ownBlock ->
   q.cell? ⟨k,0,N⟩=J (M (J ⟨ge,0,N⟩) R1.length aa)/\q.cell? ⟨ge,i*2+1,N⟩=J (M z R1[i].h.length D)/\q.frozen? ⟨ge,i*2+1,N⟩=Z):=λq p=>by
  obtain⟨H1,-,-,-,F⟩:=HY.o;have a0:(dT z R1[i].h.length D).ownBlock=R1[i].v.ownBlock:=by rw[F]
  rw[a0]at p;have Ha:=H1.alloc (E #[I K (d.last+1),U n,C l] 130);have Hs:=(Ha.row.kept p (Or.inr (λe=>H1.MF _ y e.s)));have a4:=Hs.cellAt (i*2+1) (by omega);rw[aB,bE 2 _ (λ_=>Q) R1 i 1 hi (by omega)]at a4;exact⟨(Ha.cells.grown p (H1.MD _ y)).c0,by rw[a4,<-F];rfl,Hs.frozenAt _⟩
 have av:Hid (∀ (g al:H) (q:Wj),q.ownsRow B 130 3 (M (J ⟨g,0,N⟩) (R1[i].h.length+1) al) (R1[i].h.length+1) (aw R1[i].h++[I K (d.last+1),U n,C l])->(wc.alloc (E #[I K (d.last+1),U n,C l] 130)).grownBy q (dT z R1[i].h.length D).ownBlock ->
   ((dT z R1[i].h.length D).ownBlock=J g\/g=wc.heap.size+1)->Put B k G (bM d f n l) (d.last+1+1) (d.last+1) n l w r R (q.setCell ⟨ge,i*2+1,N⟩ (M (J ⟨g,0,N⟩) (R1[i].h.length+1) al))):=λg al q h1 h2 h3=>Lr hi HY.o HZ.o _ h1 h2 h3
 clear F y x0;have hii:(i:Int)<(R1.length:Int):=by omega
 generalize R1[i].h.length=m at *
 go_upto_region 10 with fail
 go_cut [63] (λ_ wx=>Put B k G (bM d f n l) (d.last+1+1) (d.last+1) n l w r R wx)
 case first=>
  go_region_law (refine step_append_lies _ Q _ _ 138 Q B 130 i0 _ 3 32 (Yq.u underlying138) bb bi bl a6 Q (by decide) (M z m D) m (aw R1[i].h) (by simp[Act.eval]) (L.o _) ⟨wc.heap.size,0,N⟩ 1 1 [I K (d.last+1),U n,C l] (by simp[Act.eval]) Q (P.o _) (one3 _ _ _) (by omega) (by simp only[maxLen];omega) (by omega) (by simp;omega) (wc.heap.size+1) (by simp) ?_;intro g ac q aj t ad a2;have p:(wc.alloc (E #[I K (d.last+1),U n,C l] 130)).grownBy q (dT z m D).ownBlock:=⟨t.os,t.tape,t.output,t.size,t.block⟩;have⟨y0,y1,y2⟩:=af.o q p)
  all_goals
   go_wp2_with fail
   go_meet
   case rel=>exact av.o g ac q aj p ad
 case rest=>
 obtain⟨ab,R',P1,P2,P3,⟨d0,d1,d2,d3,d4,fz⟩,P5,P6,P7,P8⟩:=hcut;have g0:=fz 0;have g1:=fz 1;have g2:=fz 2;have g3:=fz 3;have g4:=fz 4;have u0:=P5.c0;have HE:Hid (aA B wc k ab R' (d.last+1+1) G/\Sim (bM d f n l) R' (d.last+1+1)/\bm w wc k r R ab R'/\ab.ownBlock≠J (w.heap.size+1)/\(∀e∈R',e.v.ownBlock≠J (w.heap.size+1))):=⟨P1,P2,P3,P7,P8⟩;clear P1 P2 P3 P5 P7 P8 fz;go_wp2;refine bodyPost_ret (v:=aG ⟨0,d.last+1,⟨#[]⟩⟩) (by simp[results,results56,go_sem,aG,d0,d1,d2,d3,d4]) Q ⟨Q,?_⟩;have⟨P1,P2,P3,P7,P8⟩:=HE.o;have a3:=km wc (w.heap.size+1) (I K 0) (I K (d.last+1)) (U ⟨#[]⟩) (M N 0 0) (U ⟨#[]⟩);exact⟨ab,R',_,P1.grown a3 (by simp;omega) (Or.inr P7) (λe he=>Or.inr (P8 e he)),P2,P3.step a3 (λb hb e=>by cases e;omega) P1.lt (by simp;omega)⟩
end
