/- A part. -/
import Derived.Test.YtnapepbdohidgaaGreatDoorQL20
set_option maxHeartbeats 4000000
set_option maxRecDepth 100000
open Go renaming World->Wj,Value->Wx
namespace Go.Proofs.Qw
open Tryz
section
open Go.RowKit
structure Low (st:St)(s:Nat):Prop where
 last0:0<=st.last
 lastS:st.last<=s
theorem Bu (B k:Nat)(sl:Wx)(R:List br)(nx tm:Int)(st:St)(s:Nat)(key:ByteArray)(n0:Int)(a:ByteArray)(c:Bool)(w:Wj)(H:ax B w k sl R nx tm)(S:Sim st R nx)(V:Low st s)(hs:s<2199023255552)(hB:B<=w.heap.size)(hfull:¬200<=st.count):
  Calls Yq.prog 81 #[.pointer (some ⟨k,0,none⟩),.string key,.agg #[.int .i64 n0,.string a,.bool c]] w (bL B k (cw st key a c) ⟨0,st.last+1,⟨#[]⟩⟩ w sl R tm):=by
 obtain ⟨i0,Q,I,O,J⟩:=info_parts Yq.infoRver;obtain ⟨Z,N,hy0,hy1,K⟩:=info_parts Yq.infoREnt;have hlen:=gE R S.full;have hlim:=S.lim;have hc:=S.count;have hkw:=H.lt;have c0:=H.cells.c0;have c1:=H.cells.c1;have f0:=H.cells.fz 0;have f1:=H.cells.fz 1;have HH:Hid (ax B w k sl R nx tm/\Sim st R nx):=⟨H,S⟩;have ht:¬(200:Int)<=(totR R:Int):=by omega
 have hnx:=S.next
 have l0:=V.last0;have l1:=V.lastS;clear H S;unfold bL;go_enter (Yq.nq func81),ntmps81;go_wp2_with fail
 refine (pe B k sl R nx tm _ ((HH.out.1.alloc _).alloc _) hlen (by omega)).mono ?_;rintro e w1 ⟨rfl,rfl⟩;have hk1:¬w.heap.size=k:=by omega
 have hk2:¬w.heap.size+1=k:=by omega
 go_wp2_with fail
 have H1:ax B (((w.setCell ⟨k,1,none⟩ (.int .i64 (st.last+1+1))).alloc (.cells #[.int .i64 (st.last+1),.string a,.bool c] 145)).alloc (.cells #[.int .i64 0,.int .i64 0,.string ⟨#[]⟩,.slice none 0 0,.string ⟨#[]⟩] 36)) k sl R (st.last+1+1) tm:=((HH.out.1.set1 _).alloc _).alloc _;have RA:=DD ((w.setCell ⟨k,1,none⟩ (.int .i64 (st.last+1+1))).alloc (.cells #[.int .i64 (st.last+1),.string a,.bool c] 145)) (w.heap.size+1) (by simp [World.setCell]) 36;have CV:aQ (((w.setCell ⟨k,1,none⟩ (.int .i64 (st.last+1+1))).alloc (.cells #[.int .i64 (st.last+1),.string a,.bool c] 145)).alloc (.cells #[.int .i64 0,.int .i64 0,.string ⟨#[]⟩,.slice none 0 0,.string ⟨#[]⟩] 36)) w.heap.size (.int .i64 (st.last+1)) (.string a) (.bool c):=by
  have h1:=(fX (w.setCell ⟨k,1,none⟩ (.int .i64 (st.last+1+1))) (.int .i64 (st.last+1)) (.string a) (.bool c) 145).on ((bR _ _).alloc (lR _) (.cells #[.int .i64 0,.int .i64 0,.string ⟨#[]⟩,.slice none 0 0,.string ⟨#[]⟩] 36));simpa [World.setCell] using h1
 have FR:bg w (((w.setCell ⟨k,1,none⟩ (.int .i64 (st.last+1+1))).alloc (.cells #[.int .i64 (st.last+1),.string a,.bool c] 145)).alloc (.cells #[.int .i64 0,.int .i64 0,.string ⟨#[]⟩,.slice none 0 0,.string ⟨#[]⟩] 36)) k sl R:=
  (yx w k 1 _ (by omega) sl R).below (((bR _ _).alloc (lR _) _).alloc (by simp) _) (by simpa [World.setCell] using hkw)
 have hsz:(((w.setCell ⟨k,1,none⟩ (.int .i64 (st.last+1+1))).alloc (.cells #[.int .i64 (st.last+1),.string a,.bool c] 145)).alloc (.cells #[.int .i64 0,.int .i64 0,.string ⟨#[]⟩,.slice none 0 0,.string ⟨#[]⟩] 36)).heap.size=w.heap.size+2:=by simp [World.setCell]
 have HF:=iy B k sl R (st.last+1+1) tm key _ H1 (by omega);generalize ((w.setCell ⟨k,1,none⟩ (.int .i64 (st.last+1+1))).alloc (.cells #[.int .i64 (st.last+1),.string a,.bool c] 145)).alloc (.cells #[.int .i64 0,.int .i64 0,.string ⟨#[]⟩,.slice none 0 0,.string ⟨#[]⟩] 36)=W0 at *;refine HF.mono ?_;rintro e w2 ⟨rfl,q⟩;have HX:Hid (ax B W0 k sl R (st.last+1+1) tm/\iY (w.heap.size+1) W0/\aQ W0 w.heap.size (.int .i64 (st.last+1)) (.string a) (.bool c)/\bg w W0 k sl R/\W0.heap.size=w.heap.size+2):=⟨H1,RA,CV,FR,hsz⟩;clear H1 RA CV FR HF c0 c1 f0 f1 hsz;have hE:∃C:Int,e=.returned (.int .i64 C)/\((∃ (i:Nat) (h:i<R.length),R[i].key=key/\C=i)\/((∀x∈R,x.key≠key)/\C=-1)):=by
  rcases q with ⟨i,z,hk,rfl⟩|⟨hno,rfl⟩
  .exact ⟨_,rfl,Or.inl ⟨i,z,hk,rfl⟩⟩
  .exact ⟨_,rfl,Or.inr ⟨hno,rfl⟩⟩
 obtain ⟨C,rfl,o⟩:=hE;have HCS:Hid ((∃ (i:Nat) (h:i<R.length),R[i].key=key/\C=i)\/((∀x∈R,x.key≠key)/\C=-1)):=o;clear q o
 go_upto_if 30 with fail
 go_cut [8] (fun s8 M=>∃i:Nat,s8=.int .i64 i/\Mid B k tm st key a c w sl R M i)
 case first=>
  rcases HCS.out with ⟨i,z,P,rfl⟩|⟨hno,rfl⟩
  .go_wp2_with fail
   go_meet
   case rel=>exact ⟨i,rfl,DE HH.out.1 HH.out.2 (by omega) z P HX.out⟩
  .obtain ⟨l,n,rfl,-⟩:=aE HH.out.1.row;have b0:=HX.out.1.cells.c0;have b1:=HX.out.1.cells.fz 0;have t:Hid (∀X:Obj,(W0.alloc X).ownsRow B 154 2 (.slice l R.length n) R.length (az R)):=fun X=>HX.out.1.row.alloc X
   have p:Hid (∀T,∀j u,[.string key,.slice none 0 0][j]?=some u->(W0.alloc (.cells #[.string key,.slice none 0 0] T)).cell? ((⟨W0.heap.size,0,none⟩:Addr).add j)=some u):=fun T j u Y=>by
    rw [Addr.add_lit,cA (w:=W0) _ _ W0.heap.size _ rfl];simpa using Y
   have L:Hid (∀w3:Wj,(W0.alloc (.cells #[.string key,.slice none 0 0] 154)).grownBy w3 (Value.slice l R.length n).ownBlock->w3.cell? ⟨k,0,none⟩=some (.slice l R.length n)/\w3.frozen? ⟨k,0,none⟩=false):=fun w3 d=>by
    have hc:=(HX.out.1.alloc (.cells #[.string key,.slice none 0 0] 154)).cells.grown d HX.out.1.apart;exact ⟨hc.c0,hc.fz 0⟩
   have h5:B<=W0.heap.size:=by have:=HX.out.2.2.2.2;omega
   go_wp2_with (at_builtin;go_loud (refine wpList_append_lies _ rfl _ _ 68 rfl B 154 Z _ 2 40 (Yq.u underlying68) N hy0 hy1 K rfl (by decide) (.slice l R.length n) R.length (az R) rfl (t.out _) ⟨W0.heap.size,0,none⟩ 1 1 [.string key,.slice none 0 0] rfl rfl (p.out _) (by intro u U;simp at U;rcases U with rfl|rfl<;>rfl) (by omega) (by simp only [maxLen];omega) (by omega) (by simp;omega) (W0.heap.size+1) (by simp) ?_);intro g y w3 ho3 d hgg E;obtain ⟨y0,y1⟩:=L.out w3 d)
   go_meet
   case rel=>exact ⟨R.length,by go_num,GI HH.out.1 HH.out.2 (by omega) hno HX.out _ ho3 d hgg⟩
 case rest=>
 obtain ⟨i,rfl,G⟩:=hcut;obtain ⟨sl1,R1,z,M1,M2,M3,M4,M5,M6,M7,M8,M9,M10,M11⟩:=G;obtain ⟨ge,r,rfl,-,hgl,x0,x1⟩:=M1.ent i z;have hmem:R1[i]∈R1:=List.getElem_mem z;obtain ⟨l,n,hev,-⟩:=aE (M1.vers R1[i] hmem);have b0:=M1.cells.c0;have v0:=M6.c0;have v1:=M6.c1;have v2:=M6.c2;have hkc:=M1.lt;have HY:Hid (ax B wc k (.slice (some ⟨ge,0,none⟩) R1.length r) R1 (st.last+1+1) tm/\iY (w.heap.size+1) wc/\aQ wc w.heap.size (.int .i64 (st.last+1)) (.string a) (.bool c)/\bg w wc k sl R/\R1[i].v=.slice l R1[i].h.length n):=⟨M1,M5,M6,M7,hev⟩;have HZ:Hid ((∀j (Y:j<R1.length),j≠i->R1[j].h≠[])/\(∀v',Sim (cw st key a c) (R1.set i ⟨R1[i].key,R1[i].h++[⟨st.last+1,a,c⟩],v'⟩) (st.last+1+1))/\(∀b,b<w.heap.size+2->(Value.slice (some ⟨ge,0,none⟩) R1.length r).ownBlock=some b->b<w.heap.size/\sl.ownBlock=some b)/\(∀e∈R1,∀b,e.v.ownBlock=some b->b<w.heap.size/\∃e'∈R,e'.v.ownBlock=some b)/\w.heap.size+2<=wc.heap.size):=⟨M2,M9,M10,M11,M8⟩;have hge1:¬ge=w.heap.size:=fun e=>by have:=(M10 ge (by omega) rfl).1;omega
 have hge2:¬ge=w.heap.size+1:=fun e=>by have:=(M10 ge (by omega) rfl).1;omega
 have hBc:B<=wc.heap.size:=by omega
 rw [hev] at x1;have x1a:=ai ((bR wc.heap.size wc).alloc (lR _) (.cells #[.int .i64 (st.last+1),.string a,.bool c] 145)) x1;have b0a:=ai ((bR wc.heap.size wc).alloc (lR _) (.cells #[.int .i64 (st.last+1),.string a,.bool c] 145)) b0;clear M1 M5 M6 M7 M2 M9 M10 M11 M8;have t:Hid (∀X:Obj,(wc.alloc X).ownsRow B 145 3 (.slice l R1[i].h.length n) R1[i].h.length (am R1[i].h)):=fun X=>by
  have:=(HY.out.1.vers _ hmem).alloc X
  rwa [HY.out.2.2.2.2] at this
 have p:Hid (∀T,∀j u,[.int .i64 (st.last+1),.string a,.bool c][j]?=some u->(wc.alloc (.cells #[.int .i64 (st.last+1),.string a,.bool c] T)).cell? ((⟨wc.heap.size,0,none⟩:Addr).add j)=some u):=fun T=>news3 wc _ _ _ T
 have A:Hid (∀w3:Wj,(wc.alloc (.cells #[.int .i64 (st.last+1),.string a,.bool c] 145)).grownBy w3 (Value.slice l R1[i].h.length n).ownBlock ->
   w3.cell? ⟨k,0,none⟩=some (.slice (some ⟨ge,0,none⟩) R1.length r)/\w3.cell? ⟨ge,i * 2+1,none⟩=some (.slice l R1[i].h.length n)/\w3.frozen? ⟨ge,i * 2+1,none⟩=false):=fun w3 d=>by
  obtain ⟨H1,-,-,-,hev⟩:=HY.out;have hrow:(Value.slice l R1[i].h.length n).ownBlock=R1[i].v.ownBlock:=by rw [hev]
  rw [hrow] at d;have Ha:=H1.alloc (.cells #[.int .i64 (st.last+1),.string a,.bool c] 145);have Hs:=(Ha.row.kept d (Or.inr (fun e=>H1.apartE _ hmem e.symm)));have hc1:=Hs.cellAt (i * 2+1) (by omega);rw [az,cu 2 _ (fun _=>rfl) R1 i 1 z (by omega)] at hc1;exact ⟨(Ha.cells.grown d (H1.apartV _ hmem)).c0,by rw [hc1,<-hev];rfl,Hs.frozenAt _⟩
 have F:Hid (∀ (g cap:Nat) (w3:Wj),w3.ownsRow B 145 3 (.slice (some ⟨g,0,none⟩) (R1[i].h.length+1) cap) (R1[i].h.length+1) (am R1[i].h++[.int .i64 (st.last+1),.string a,.bool c])->(wc.alloc (.cells #[.int .i64 (st.last+1),.string a,.bool c] 145)).grownBy w3 (Value.slice l R1[i].h.length n).ownBlock ->
   ((Value.slice l R1[i].h.length n).ownBlock=some g\/g=wc.heap.size+1)->Put B k tm (cw st key a c) (st.last+1+1) (st.last+1) a c w sl R (w3.setCell ⟨ge,i * 2+1,none⟩ (.slice (some ⟨g,0,none⟩) (R1[i].h.length+1) cap))):=fun g cap w3 h1 h2 h3=>GJ z HY.out HZ.out _ h1 h2 h3
 clear hev hmem x0;have hii:(i:Int)<(R1.length:Int):=by omega
 generalize R1[i].h.length=m at *
 go_upto_region 10 with fail
 go_cut [63] (fun _ M=>Put B k tm (cw st key a c) (st.last+1+1) (st.last+1) a c w sl R M)
 case first=>
  go_region_law (refine step_append_lies _ rfl _ _ 152 rfl B 145 i0 _ 3 32 (Yq.u underlying152) Q I O J rfl (by decide) (.slice l m n) m (am R1[i].h) (by simp [Act.eval]) (t.out _) ⟨wc.heap.size,0,none⟩ 1 1 [.int .i64 (st.last+1),.string a,.bool c] (by simp [Act.eval]) rfl (p.out _) (one3 _ _ _) (by omega) (by simp only [maxLen];omega) (by omega) (by simp;omega) (wc.heap.size+1) (by simp) ?_;intro g y w3 ho3 f hgg E;have d:(wc.alloc (.cells #[.int .i64 (st.last+1),.string a,.bool c] 145)).grownBy w3 (Value.slice l m n).ownBlock:=⟨f.os,f.tape,f.output,f.size,f.block⟩;obtain ⟨y0,y1,y2⟩:=A.out w3 d)
  all_goals
   go_wp2_with fail
   go_meet
   case rel=>exact F.out g y w3 ho3 d hgg
 case rest=>
 obtain ⟨sl',R',P1,P2,P3,⟨d0,d1,d2,d3,d4,D⟩,P5,P6,P7,P8⟩:=hcut;have g0:=D 0;have g1:=D 1;have g2:=D 2;have g3:=D 3;have g4:=D 4;have u0:=P5.c0;have HE:Hid (ax B wc k sl' R' (st.last+1+1) tm/\Sim (cw st key a c) R' (st.last+1+1)/\bg w wc k sl R/\sl'.ownBlock≠some (w.heap.size+1)/\(∀e∈R',e.v.ownBlock≠some (w.heap.size+1))):=⟨P1,P2,P3,P7,P8⟩;clear P1 P2 P3 P5 P7 P8 D;go_wp2;refine bodyPost_ret (v:=aA ⟨0,st.last+1,⟨#[]⟩⟩) (by simp [results,results81,go_sem,aA,d0,d1,d2,d3,d4]) rfl ⟨rfl,?_⟩;obtain ⟨P1,P2,P3,P7,P8⟩:=HE.out;have hg5:=iR wc (w.heap.size+1) (.int .i64 0) (.int .i64 (st.last+1)) (.string ⟨#[]⟩) (.slice none 0 0) (.string ⟨#[]⟩);exact ⟨sl',R',_,P1.grown hg5 (by simp;omega) (Or.inr P7) (fun e he=>Or.inr (P8 e he)),P2,P3.step hg5 (fun b hb e=>by cases e;omega) P1.lt (by simp;omega)⟩
end
