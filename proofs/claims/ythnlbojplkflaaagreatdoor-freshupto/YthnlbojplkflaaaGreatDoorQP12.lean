/- A part. -/
import Derived.Test.YthnlbojplkflaaaGreatDoorQP11
set_option maxHeartbeats 4000000
set_option maxRecDepth 100000
open Go.Value renaming slice->dT
open Go.World renaming setCell->ey
open Go renaming World->Wj,Value->Wx
namespace Go.Proofs.Qw
open _root_ renaming rfl->Q
open _root_ renaming Nat->H,List->S
open Option renaming none->N,some->J
open Bool renaming false->Z
open Value renaming int->I,string->U,slice->M,pointer->O,bool->C,agg->Rd
open IntKind renaming i64->K
open Obj renaming cells->E
open Ending renaming returned->Rc
open Tryz
section
open Go.RowKit
structure Low (st:St)(s:H):Prop where
 NV:0<=st.last
 NY:st.last<=s
theorem FN B k P R nx tm d s f n0 n l w(a:aD B w k P R nx tm)(c:Sim d R nx)(hI:Low d s)(hs:s<2199023255552)(hB:B<=w.heap.size)(hfull:¬200<=d.count):
  Calls Yq.prog 60 #[O (J ⟨k,0,N⟩),U f,Rd #[I K n0,U n,C l]] w (cP B k (ce d f n l) ⟨0,d.last+1,⟨#[]⟩⟩ w P R tm):=by
 have⟨i0,a9,be,bk,a5⟩:=info_parts Yq.Oo;have⟨j0,a7,a8,a4,bi⟩:=info_parts Yq.Ov;have aj:=ie R c.full;have hlim:=c.NW;have hc:=c.count;have bb:=a.lt;have c0:=a.cells.c0;have c1:=a.cells.c1;have f0:=a.cells.fz 0;have f1:=a.cells.fz 1;have HH:=bJ a c;have ht:¬(200:Int)<=(totR R:Int):=by omega
 have hnx:=c.next
 have l0:=hI.NV;have l1:=hI.NY;clear a c;unfold cP;go_enter (Yq.nq func60),ntmps60;go_wp2_with fail
 refine(nT B k P R nx tm _ ((HH.o.1.alloc _).alloc _) aj (by omega)).m ?_;rintro e w1 ⟨rfl,rfl⟩;have hk1:¬w.heap.size=k:=by omega
 have hk2:¬w.heap.size+1=k:=by omega
 go_wp2_with fail
 have H1:aD B (((w.setCell ⟨k,1,N⟩ (I K (d.last+1+1))).alloc (E #[I K (d.last+1),U n,C l] 137)).alloc (E #[I K 0,I K 0,U ⟨#[]⟩,M N 0 0,U ⟨#[]⟩] 53)) k P R (d.last+1+1) tm:=((HH.o.1.OW _).alloc _).alloc _;have RA:=JN ((w.setCell ⟨k,1,N⟩ (I K (d.last+1+1))).alloc (E #[I K (d.last+1),U n,C l] 137)) (w.heap.size+1) (by simp[ey]) 53;have CV:bB (((w.setCell ⟨k,1,N⟩ (I K (d.last+1+1))).alloc (E #[I K (d.last+1),U n,C l] 137)).alloc (E #[I K 0,I K 0,U ⟨#[]⟩,M N 0 0,U ⟨#[]⟩] 53)) w.heap.size (I K (d.last+1)) (U n) (C l):=by
  simpa[ey]using((iR (w.setCell ⟨k,1,N⟩ (I K (d.last+1+1))) (I K (d.last+1)) (U n) (C l) 137).on ((Q9).alloc Q0 (E #[I K 0,I K 0,U ⟨#[]⟩,M N 0 0,U ⟨#[]⟩] 53)))
 have FR:bU w (((w.setCell ⟨k,1,N⟩ (I K (d.last+1+1))).alloc (E #[I K (d.last+1),U n,C l] 137)).alloc (E #[I K 0,I K 0,U ⟨#[]⟩,M N 0 0,U ⟨#[]⟩] 53)) k P R P R:=
  (CR w k 1 _ (by omega) P R).below (((Q9).alloc Q0 _).alloc (by simp) _) (by simpa[ey]using bb)
 have al:(((w.setCell ⟨k,1,N⟩ (I K (d.last+1+1))).alloc (E #[I K (d.last+1),U n,C l] 137)).alloc (E #[I K 0,I K 0,U ⟨#[]⟩,M N 0 0,U ⟨#[]⟩] 53)).heap.size=w.heap.size+2:=by simp[ey]
 have HF:=j9 B k P R (d.last+1+1) tm f _ H1 (by omega);generalize((w.setCell ⟨k,1,N⟩ (I K (d.last+1+1))).alloc (E #[I K (d.last+1),U n,C l] 137)).alloc (E #[I K 0,I K 0,U ⟨#[]⟩,M N 0 0,U ⟨#[]⟩] 53)=W0 at *;refine HF.m ?_;rintro e w2 ⟨rfl,L⟩;have HX:=gB H1 RA CV FR al;clear H1 RA CV FR HF c0 c1 f0 f1 al;have hE:∃ei:Int,e=Rc (I K ei)/\((∃ (i:H) (h:i<R.length),R[i].key=f/\ei=i)\/((∀x∈R,x.key≠f)/\ei=-1)):=by
  rcases L with⟨i,V,hk,rfl⟩|⟨ad,rfl⟩
  .exact ⟨_,Q,Or.inl ⟨i,V,hk,Q⟩⟩
  .exact ⟨_,Q,Or.inr ⟨ad,Q⟩⟩
 obtain⟨ei,rfl,y⟩:=hE;have a6:=aq y;clear L y
 go_upto_if 30 with fail
 go_cut [8] (λs8 wx=>∃i:H,s8=I K i/\Mid B k tm d f n l w P R wx i)
 case first=>
  rcases a6.o with⟨i,V,bl,rfl⟩|⟨ad,rfl⟩
  .go_wp2_with fail
   go_meet
   case rel=>exact⟨i,Q,I3 HH.o.1 HH.o.2 (by omega) V bl HX.o⟩
  .obtain ⟨z,D,rfl,-⟩:=ao HH.o.1.row;have b0:=HX.o.1.cells.c0;have b1:=HX.o.1.cells.fz 0;have F:Hid (∀X:Obj,(W0.alloc X).ownsRow B 147 2 (M z R.length D) R.length (aB R)):=λX=>HX.o.1.row.alloc X
   have G:Hid (∀T,∀j u,[U f,M N 0 0][j]?=J u->(W0.alloc (E #[U f,M N 0 0] T)).cell? ((⟨W0.heap.size,0,N⟩:Addr).add j)=J u):=λT j u hj=>by
    rw[Addr.add_lit,cA (w:=W0) _ _ W0.heap.size _ Q];simpa using hj
   have bn:Hid (∀q:Wj,(W0.alloc (E #[U f,M N 0 0] 147)).grownBy q (dT z R.length D).ownBlock->q.cell? ⟨k,0,N⟩=J (M z R.length D)/\q.frozen? ⟨k,0,N⟩=Z):=λq p=>by
    have hc:=(HX.o.1.alloc (E #[U f,M N 0 0] 147)).cells.grown p HX.o.1.apart;exact⟨hc.c0,hc.fz 0⟩
   have h5:B<=W0.heap.size:=by have:=HX.o.2.2.2.2;omega
   go_wp2_with (at_builtin;go_loud (refine wpList_append_lies _ Q _ _ 56 Q B 147 j0 _ 2 40 (Yq.u underlying56) a7 a8 a4 bi Q (by decide) (M z R.length D) R.length (aB R) Q (F.o _) ⟨W0.heap.size,0,N⟩ 1 1 [U f,M N 0 0] Q Q (G.o _) (by intro u hu;simp at hu;rcases hu with rfl|rfl<;>rfl) (by omega) (by simp only[maxLen];omega) (by omega) (by simp;omega) (W0.heap.size+1) (by simp) ?_);intro g aa q af p ab a0;have⟨y0,y1⟩:=bn.o q p)
   go_meet
   case rel=>exact⟨R.length,by go_num,Mp HH.o.1 HH.o.2 (by omega) ad HX.o _ af p ab⟩
 case rest=>
 obtain⟨i,rfl,av⟩:=hcut;obtain⟨sl1,R1,V,M1,M2,M3,M4,M5,M6,M7,M8,M9,M10,M11⟩:=av;obtain⟨ge,a2,rfl,-,hgl,x0,x1⟩:=M1.Pc i V;have t:R1[i]∈R1:=List.getElem_mem V;obtain⟨z,D,A,-⟩:=ao (M1.NL R1[i] t);have b0:=M1.cells.c0;have v0:=M6.c0;have v1:=M6.c1;have v2:=M6.c2;have hkc:=M1.lt;have HY:=gB M1 M5 M6 M7 A;have HZ:=gB M2 M9 M10 M11 M8;have hge1:¬ge=w.heap.size:=λe=>by have:=(M10 ge (by omega) Q).1;omega
 have hge2:¬ge=w.heap.size+1:=λe=>by have:=(M10 ge (by omega) Q).1;omega
 have hBc:B<=wc.heap.size:=by omega
 rw[A]at x1;have x1a:=ag ((bR wc.heap.size wc).alloc Q0 (E #[I K (d.last+1),U n,C l] 137)) x1;have b0a:=ag ((bR wc.heap.size wc).alloc Q0 (E #[I K (d.last+1),U n,C l] 137)) b0;clear M1 M5 M6 M7 M2 M9 M10 M11 M8;have F:Hid (∀X:Obj,(wc.alloc X).ownsRow B 137 3 (M z R1[i].h.length D) R1[i].h.length (aA R1[i].h)):=λX=>by
  have:=(HY.o.1.NL _ t).alloc X
  rwa [HY.o.2.2.2.2]at this
 have G:Hid (∀T,∀j u,[I K (d.last+1),U n,C l][j]?=J u->(wc.alloc (E #[I K (d.last+1),U n,C l] T)).cell? ((⟨wc.heap.size,0,N⟩:Addr).add j)=J u):=λT=>news3 wc _ _ _ T
 have ac:Hid (∀q:Wj,(wc.alloc (E #[I K (d.last+1),U n,C l] 137)).grownBy q (dT z R1[i].h.length D).ownBlock ->
   q.cell? ⟨k,0,N⟩=J (M (J ⟨ge,0,N⟩) R1.length a2)/\q.cell? ⟨ge,i*2+1,N⟩=J (M z R1[i].h.length D)/\q.frozen? ⟨ge,i*2+1,N⟩=Z):=λq p=>by
  obtain⟨H1,-,-,-,A⟩:=HY.o;have ar:(dT z R1[i].h.length D).ownBlock=R1[i].v.ownBlock:=by rw[A]
  rw[ar]at p;have Ha:=H1.alloc (E #[I K (d.last+1),U n,C l] 137);have Hs:=(Ha.row.kept p (Or.inr (λe=>H1.NN _ t e.s)));have a3:=Hs.cellAt (i*2+1) (by omega);rw[aB,bL 2 _ (λ_=>Q) R1 i 1 V (by omega)]at a3;exact⟨(Ha.cells.grown p (H1.NM _ t)).c0,by rw[a3,<-A];rfl,Hs.frozenAt _⟩
 have ap:Hid (∀ (g ai:H) (q:Wj),q.ownsRow B 137 3 (M (J ⟨g,0,N⟩) (R1[i].h.length+1) ai) (R1[i].h.length+1) (aA R1[i].h++[I K (d.last+1),U n,C l])->(wc.alloc (E #[I K (d.last+1),U n,C l] 137)).grownBy q (dT z R1[i].h.length D).ownBlock ->
   ((dT z R1[i].h.length D).ownBlock=J g\/g=wc.heap.size+1)->Put B k tm (ce d f n l) (d.last+1+1) (d.last+1) n l w P R (q.setCell ⟨ge,i*2+1,N⟩ (M (J ⟨g,0,N⟩) (R1[i].h.length+1) ai))):=λg ai q h1 h2 h3=>Mq V HY.o HZ.o _ h1 h2 h3
 clear A t x0;have hii:(i:Int)<(R1.length:Int):=by omega
 generalize R1[i].h.length=m at *
 go_upto_region 10 with fail
 go_cut [63] (λ_ wx=>Put B k tm (ce d f n l) (d.last+1+1) (d.last+1) n l w P R wx)
 case first=>
  go_region_law (refine step_append_lies _ Q _ _ 145 Q B 137 i0 _ 3 32 (Yq.u underlying145) a9 be bk a5 Q (by decide) (M z m D) m (aA R1[i].h) (by simp[Act.eval]) (F.o _) ⟨wc.heap.size,0,N⟩ 1 1 [I K (d.last+1),U n,C l] (by simp[Act.eval]) Q (G.o _) (one3 _ _ _) (by omega) (by simp only[maxLen];omega) (by omega) (by simp;omega) (wc.heap.size+1) (by simp) ?_;intro g aa q af r ab a0;have p:(wc.alloc (E #[I K (d.last+1),U n,C l] 137)).grownBy q (dT z m D).ownBlock:=⟨r.os,r.tape,r.output,r.size,r.block⟩;have⟨y0,y1,y2⟩:=ac.o q p)
  all_goals
   go_wp2_with fail
   go_meet
   case rel=>exact ap.o g aa q af p ab
 case rest=>
 obtain⟨bo,R',P1,P2,P3,⟨d0,d1,d2,d3,d4,fz⟩,P5,P6,P7,P8⟩:=hcut;have g0:=fz 0;have g1:=fz 1;have g2:=fz 2;have g3:=fz 3;have g4:=fz 4;have u0:=P5.c0;have HE:=gB P1 P2 P3 P7 P8;clear P1 P2 P3 P5 P7 P8 fz;go_wp2;refine bodyPost_ret (v:=aG ⟨0,d.last+1,⟨#[]⟩⟩) (by simp[results,results60,go_sem,aG,d0,d1,d2,d3,d4]) Q ⟨Q,?_⟩;have⟨P1,P2,P3,P7,P8⟩:=HE.o;have a1:=kQ wc (w.heap.size+1) (I K 0) (I K (d.last+1)) (U ⟨#[]⟩) (M N 0 0) (U ⟨#[]⟩);exact⟨bo,R',_,P1.grown a1 (by simp;omega) (Or.inr P7) (λe he=>Or.inr (P8 e he)),P2,P3.step a1 (λb hb e=>by cases e;omega) P1.lt (by simp;omega)⟩
end
