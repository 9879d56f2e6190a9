/- A part. -/
import Derived.Test.YteidaiooccmmmaaGreatDoorQP11
set_option maxHeartbeats 4000000
set_option maxRecDepth 100000
open Go renaming World->Wj,Value->Wx
namespace Go.Proofs.Qw
open Option renaming none->N,some->J
open Bool renaming false->Z
open Value renaming int->I,string->U,slice->M,pointer->O,bool->C
open IntKind renaming i64->K
open Obj renaming cells->E
open Tryz
section
open Go.RowKit
structure Low (st:St)(s:Nat):Prop where
 last0:0<=st.last
 lastS:st.last<=s
theorem CM(B k:Nat)(q:Wx)(R:List bD)(nx A:Int)(a:St)(s:Nat)(c:ByteArray)(n0:Int)(f:ByteArray)(d:Bool)(w:Wj)(H:ax B w k q R nx A)(S:Sim a R nx)(hI:Low a s)(hs:s<2199023255552)(hB:B<=w.heap.size)(hfull:¬200<=a.count):
  Calls Yq.prog 56 #[O (J ⟨k,0,N⟩),U c,.agg #[I K n0,U f,C d]] w (bQ B k (cJ a c f d) ⟨0,a.last+1,⟨#[]⟩⟩ w q R A):=by
 have⟨i0,bb,bi,bl,a6⟩:=info_parts Yq.infoRver;have⟨j0,a8,a9,a5,bk⟩:=info_parts Yq.infoREnt;have ap:=gl R S.full;have hlim:=S.lim;have hc:=S.count;have be:=H.lt;have c0:=H.cells.c0;have c1:=H.cells.c1;have f0:=H.cells.fz 0;have f1:=H.cells.fz 1;have HH:Hid (ax B w k q R nx A/\Sim a R nx):=⟨H,S⟩;have ht:¬(200:Int)<=(totR R:Int):=by omega
 have hnx:=S.next
 have l0:=hI.last0;have l1:=hI.lastS;clear H S;unfold bQ;go_enter (Yq.nq func56),ntmps56;go_wp2_with fail
 refine(mo B k q R nx A _ ((HH.out.1.alloc _).alloc _) ap (by omega)).mono ?_;rintro e w1 ⟨rfl,rfl⟩;have hk1:¬w.heap.size=k:=by omega
 have hk2:¬w.heap.size+1=k:=by omega
 go_wp2_with fail
 have H1:ax B (((w.setCell ⟨k,1,N⟩ (I K (a.last+1+1))).alloc (E #[I K (a.last+1),U f,C d] 130)).alloc (E #[I K 0,I K 0,U ⟨#[]⟩,M N 0 0,U ⟨#[]⟩] 46)) k q R (a.last+1+1) A:=((HH.out.1.set1 _).alloc _).alloc _;have RA:=Fc ((w.setCell ⟨k,1,N⟩ (I K (a.last+1+1))).alloc (E #[I K (a.last+1),U f,C d] 130)) (w.heap.size+1) (by simp[World.setCell]) 46;have CV:aW (((w.setCell ⟨k,1,N⟩ (I K (a.last+1+1))).alloc (E #[I K (a.last+1),U f,C d] 130)).alloc (E #[I K 0,I K 0,U ⟨#[]⟩,M N 0 0,U ⟨#[]⟩] 46)) w.heap.size (I K (a.last+1)) (U f) (C d):=by
  have h1:=(gJ (w.setCell ⟨k,1,N⟩ (I K (a.last+1+1))) (I K (a.last+1)) (U f) (C d) 130).on ((bR _ _).alloc (lR _) (E #[I K 0,I K 0,U ⟨#[]⟩,M N 0 0,U ⟨#[]⟩] 46));simpa[World.setCell]using h1
 have FR:bu w (((w.setCell ⟨k,1,N⟩ (I K (a.last+1+1))).alloc (E #[I K (a.last+1),U f,C d] 130)).alloc (E #[I K 0,I K 0,U ⟨#[]⟩,M N 0 0,U ⟨#[]⟩] 46)) k q R:=
  (zU w k 1 _ (by omega) q R).below (((bR _ _).alloc (lR _) _).alloc (by simp) _) (by simpa[World.setCell]using be)
 have ar:(((w.setCell ⟨k,1,N⟩ (I K (a.last+1+1))).alloc (E #[I K (a.last+1),U f,C d] 130)).alloc (E #[I K 0,I K 0,U ⟨#[]⟩,M N 0 0,U ⟨#[]⟩] 46)).heap.size=w.heap.size+2:=by simp[World.setCell]
 have HF:=jb B k q R (a.last+1+1) A c _ H1 (by omega);generalize((w.setCell ⟨k,1,N⟩ (I K (a.last+1+1))).alloc (E #[I K (a.last+1),U f,C d] 130)).alloc (E #[I K 0,I K 0,U ⟨#[]⟩,M N 0 0,U ⟨#[]⟩] 46)=W0 at *;refine HF.mono ?_;rintro e w2 ⟨rfl,G⟩;have HX:Hid (ax B W0 k q R (a.last+1+1) A/\jG (w.heap.size+1) W0/\aW W0 w.heap.size (I K (a.last+1)) (U f) (C d)/\bu w W0 k q R/\W0.heap.size=w.heap.size+2):=⟨H1,RA,CV,FR,ar⟩;clear H1 RA CV FR HF c0 c1 f0 f1 ar;have hE:∃ei:Int,e=.returned (I K ei)/\((∃ (i:Nat) (h:i<R.length),R[i].key=c/\ei=i)\/((∀x∈R,x.key≠c)/\ei=-1)):=by
  rcases G with⟨i,Q,hk,rfl⟩|⟨ac,rfl⟩
  .exact ⟨_,rfl,Or.inl ⟨i,Q,hk,rfl⟩⟩
  .exact ⟨_,rfl,Or.inr ⟨ac,rfl⟩⟩
 obtain⟨ei,rfl,t⟩:=hE;have a7:Hid ((∃ (i:Nat) (h:i<R.length),R[i].key=c/\ei=i)\/((∀x∈R,x.key≠c)/\ei=-1)):=t;clear G t
 go_upto_if 30 with fail
 go_cut [8] (λs8 wx=>∃i:Nat,s8=I K i/\Mid B k A a c f d w q R wx i)
 case first=>
  rcases a7.out with⟨i,Q,bn,rfl⟩|⟨ac,rfl⟩
  .go_wp2_with fail
   go_meet
   case rel=>exact⟨i,rfl,Fd HH.out.1 HH.out.2 (by omega) Q bn HX.out⟩
  .obtain ⟨r,y,rfl,-⟩:=az HH.out.1.row;have b0:=HX.out.1.cells.c0;have b1:=HX.out.1.cells.fz 0;have D:Hid (∀X:Obj,(W0.alloc X).ownsRow B 140 2 (M r R.length y) R.length (aB R)):=λX=>HX.out.1.row.alloc X
   have F:Hid (∀T,∀j u,[U c,M N 0 0][j]?=J u->(W0.alloc (E #[U c,M N 0 0] T)).cell? ((⟨W0.heap.size,0,N⟩:Addr).add j)=J u):=λT j u hj=>by
    rw[Addr.add_lit,cA (w:=W0) _ _ W0.heap.size _ rfl];simpa using hj
   have bo:Hid (∀n:Wj,(W0.alloc (E #[U c,M N 0 0] 140)).grownBy n (Value.slice r R.length y).ownBlock->n.cell? ⟨k,0,N⟩=J (M r R.length y)/\n.frozen? ⟨k,0,N⟩=Z):=λn l=>by
    have hc:=(HX.out.1.alloc (E #[U c,M N 0 0] 140)).cells.grown l HX.out.1.apart;exact⟨hc.c0,hc.fz 0⟩
   have h5:B<=W0.heap.size:=by have:=HX.out.2.2.2.2;omega
   go_wp2_with (at_builtin;go_loud (refine wpList_append_lies _ rfl _ _ 49 rfl B 140 j0 _ 2 40 (Yq.u underlying49) a8 a9 a5 bk rfl (by decide) (M r R.length y) R.length (aB R) rfl (D.out _) ⟨W0.heap.size,0,N⟩ 1 1 [U c,M N 0 0] rfl rfl (F.out _) (by intro u hu;simp at hu;rcases hu with rfl|rfl<;>rfl) (by omega) (by simp only[maxLen];omega) (by omega) (by simp;omega) (W0.heap.size+1) (by simp) ?_);intro g V n ad l aa a2;have⟨y0,y1⟩:=bo.out n l)
   go_meet
   case rel=>exact⟨R.length,by go_num,IG HH.out.1 HH.out.2 (by omega) ac HX.out _ ad l aa⟩
 case rest=>
 obtain⟨i,rfl,a1⟩:=hcut;obtain⟨sl1,R1,Q,M1,M2,M3,M4,M5,M6,M7,M8,M9,M10,M11⟩:=a1;obtain⟨P,L,rfl,-,hgl,x0,x1⟩:=M1.ent i Q;have p:R1[i]∈R1:=List.getElem_mem Q;obtain⟨r,y,z,-⟩:=az (M1.vers R1[i] p);have b0:=M1.cells.c0;have v0:=M6.c0;have v1:=M6.c1;have v2:=M6.c2;have hkc:=M1.lt;have HY:Hid (ax B wc k (M (J ⟨P,0,N⟩) R1.length L) R1 (a.last+1+1) A/\jG (w.heap.size+1) wc/\aW wc w.heap.size (I K (a.last+1)) (U f) (C d)/\bu w wc k q R/\R1[i].v=M r R1[i].h.length y):=⟨M1,M5,M6,M7,z⟩;have HZ:Hid ((∀j (hj:j<R1.length),j≠i->R1[j].h≠[])/\(∀v',Sim (cJ a c f d) (R1.set i ⟨R1[i].key,R1[i].h++[⟨a.last+1,f,d⟩],v'⟩) (a.last+1+1))/\(∀b,b<w.heap.size+2->(Value.slice (J ⟨P,0,N⟩) R1.length L).ownBlock=J b->b<w.heap.size/\q.ownBlock=J b)/\(∀e∈R1,∀b,e.v.ownBlock=J b->b<w.heap.size/\∃e'∈R,e'.v.ownBlock=J b)/\w.heap.size+2<=wc.heap.size):=⟨M2,M9,M10,M11,M8⟩;have hge1:¬P=w.heap.size:=λe=>by have:=(M10 P (by omega) rfl).1;omega
 have hge2:¬P=w.heap.size+1:=λe=>by have:=(M10 P (by omega) rfl).1;omega
 have hBc:B<=wc.heap.size:=by omega
 rw[z]at x1;have x1a:=ah ((bR wc.heap.size wc).alloc (lR _) (E #[I K (a.last+1),U f,C d] 130)) x1;have b0a:=ah ((bR wc.heap.size wc).alloc (lR _) (E #[I K (a.last+1),U f,C d] 130)) b0;clear M1 M5 M6 M7 M2 M9 M10 M11 M8;have D:Hid (∀X:Obj,(wc.alloc X).ownsRow B 130 3 (M r R1[i].h.length y) R1[i].h.length (aq R1[i].h)):=λX=>by
  have:=(HY.out.1.vers _ p).alloc X
  rwa [HY.out.2.2.2.2]at this
 have F:Hid (∀T,∀j u,[I K (a.last+1),U f,C d][j]?=J u->(wc.alloc (E #[I K (a.last+1),U f,C d] T)).cell? ((⟨wc.heap.size,0,N⟩:Addr).add j)=J u):=λT=>news3 wc _ _ _ T
 have ab:Hid (∀n:Wj,(wc.alloc (E #[I K (a.last+1),U f,C d] 130)).grownBy n (Value.slice r R1[i].h.length y).ownBlock ->
   n.cell? ⟨k,0,N⟩=J (M (J ⟨P,0,N⟩) R1.length L)/\n.cell? ⟨P,i*2+1,N⟩=J (M r R1[i].h.length y)/\n.frozen? ⟨P,i*2+1,N⟩=Z):=λn l=>by
  obtain⟨H1,-,-,-,z⟩:=HY.out;have a0:(Value.slice r R1[i].h.length y).ownBlock=R1[i].v.ownBlock:=by rw[z]
  rw[a0]at l;have Ha:=H1.alloc (E #[I K (a.last+1),U f,C d] 130);have Hs:=(Ha.row.kept l (Or.inr (λe=>H1.apartE _ p e.symm)));have a4:=Hs.cellAt (i*2+1) (by omega);rw[aB,ce 2 _ (λ_=>rfl) R1 i 1 Q (by omega)]at a4;exact⟨(Ha.cells.grown l (H1.apartV _ p)).c0,by rw[a4,<-z];rfl,Hs.frozenAt _⟩
 have av:Hid (∀ (g af:Nat) (n:Wj),n.ownsRow B 130 3 (M (J ⟨g,0,N⟩) (R1[i].h.length+1) af) (R1[i].h.length+1) (aq R1[i].h++[I K (a.last+1),U f,C d])->(wc.alloc (E #[I K (a.last+1),U f,C d] 130)).grownBy n (Value.slice r R1[i].h.length y).ownBlock ->
   ((Value.slice r R1[i].h.length y).ownBlock=J g\/g=wc.heap.size+1)->Put B k A (cJ a c f d) (a.last+1+1) (a.last+1) f d w q R (n.setCell ⟨P,i*2+1,N⟩ (M (J ⟨g,0,N⟩) (R1[i].h.length+1) af))):=λg af n h1 h2 h3=>II Q HY.out HZ.out _ h1 h2 h3
 clear z p x0;have hii:(i:Int)<(R1.length:Int):=by omega
 generalize R1[i].h.length=m at *
 go_upto_region 10 with fail
 go_cut [63] (λ_ wx=>Put B k A (cJ a c f d) (a.last+1+1) (a.last+1) f d w q R wx)
 case first=>
  go_region_law (refine step_append_lies _ rfl _ _ 138 rfl B 130 i0 _ 3 32 (Yq.u underlying138) bb bi bl a6 rfl (by decide) (M r m y) m (aq R1[i].h) (by simp[Act.eval]) (D.out _) ⟨wc.heap.size,0,N⟩ 1 1 [I K (a.last+1),U f,C d] (by simp[Act.eval]) rfl (F.out _) (one3 _ _ _) (by omega) (by simp only[maxLen];omega) (by omega) (by simp;omega) (wc.heap.size+1) (by simp) ?_;intro g V n ad o aa a2;have l:(wc.alloc (E #[I K (a.last+1),U f,C d] 130)).grownBy n (Value.slice r m y).ownBlock:=⟨o.os,o.tape,o.output,o.size,o.block⟩;have⟨y0,y1,y2⟩:=ab.out n l)
  all_goals
   go_wp2_with fail
   go_meet
   case rel=>exact av.out g V n ad l aa
 case rest=>
 obtain⟨al,R',P1,P2,P3,⟨d0,d1,d2,d3,d4,fz⟩,P5,P6,P7,P8⟩:=hcut;have g0:=fz 0;have g1:=fz 1;have g2:=fz 2;have g3:=fz 3;have g4:=fz 4;have u0:=P5.c0;have HE:Hid (ax B wc k al R' (a.last+1+1) A/\Sim (cJ a c f d) R' (a.last+1+1)/\bu w wc k q R/\al.ownBlock≠J (w.heap.size+1)/\(∀e∈R',e.v.ownBlock≠J (w.heap.size+1))):=⟨P1,P2,P3,P7,P8⟩;clear P1 P2 P3 P5 P7 P8 fz;go_wp2;refine bodyPost_ret (v:=aD ⟨0,a.last+1,⟨#[]⟩⟩) (by simp[results,results56,go_sem,aD,d0,d1,d2,d3,d4]) rfl ⟨rfl,?_⟩;have⟨P1,P2,P3,P7,P8⟩:=HE.out;have a3:=jw wc (w.heap.size+1) (I K 0) (I K (a.last+1)) (U ⟨#[]⟩) (M N 0 0) (U ⟨#[]⟩);exact⟨al,R',_,P1.grown a3 (by simp;omega) (Or.inr P7) (λe he=>Or.inr (P8 e he)),P2,P3.step a3 (λb hb e=>by cases e;omega) P1.lt (by simp;omega)⟩
end
