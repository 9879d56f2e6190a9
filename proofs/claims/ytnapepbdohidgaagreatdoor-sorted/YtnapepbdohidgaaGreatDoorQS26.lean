/- A part. -/
import Derived.Test.YtnapepbdohidgaaGreatDoorQS25
set_option maxHeartbeats 4000000
set_option maxRecDepth 100000
open Go renaming World->Wz,Value->Wq
namespace Go.Proofs.Qw
section
open Go
open Go.Conc Go.ConcX Go.ConcX.Gen Go.RowKit
noncomputable def CT:Code:=bM (bM (bM (bM (bM (bM (bM (bm Tryz.f43)))))))
def rV (k0 r0 bt bx:Nat)(u:Nat->Wq):Array Wq:=
 #[.pointer (some ⟨k0,4,none⟩),u 1,u 2,u 3,.pointer (some ⟨r0,0,none⟩),u 5,.pointer (some ⟨bt,0,none⟩),u 7,u 8,.pointer (some ⟨bx,0,none⟩),u 10,u 11,u 12,u 13,u 14,u 15,u 16,u 17,u 18,u 19,u 20,u 21,u 22,u 23,u 24,u 25,u 26,u 27,u 28,u 29,u 30,u 31,u 32,u 33,u 34,u 35,u 36,u 37,u 38,u 39,u 40,u 41,u 42,u 43,u 44,u 45,u 46,u 47,u 48,u 49,u 50,u 51,u 52,u 53,u 54,u 55,u 56,u 57,u 58,u 59,u 60,u 61]
section
variable {A:Nat->Prop} {B k0:Nat} {L:Lg}
theorem zV (Qok:Qy->Prop){w X W7:Wz}{r0 bt bx:Nat}{u:Nat->Wq}{so:Option Addr}{sn sc:Nat}{tk:ByteArray}{n pg:Int}{pgI:List ItD}(hfx:FrC k0 w X)(h:di A B X k0 L)(hw:∀b,A b->b<w.heap.size)(hd:aI A B k0 w X)(hl:aj X W7)(hrow:W7.ownsRow X.heap.size 41 3 (.slice so sn sc) pgI.length (ax pgI))(hr1:w.heap.size<=r0)(hr2:r0<X.heap.size)(hB:B<=w.heap.size)(hv:∀v g,X.cell? ⟨k0,4,none⟩=some v->v.ownBlock=some g->g≠r0)
  (b0:X.heap[r0]?=some (.cells #[.slice none 0 0,.string ⟨#[]⟩] 88)) (b1:X.heap[bt]?=some (.cells #[.int .i64 n,.int .i64 pg] 129)) (c0:W7.cell? ⟨bx,0,none⟩=some (.slice so sn sc)) (c1:W7.cell? ⟨bx,1,none⟩=some (.string tk)) (hbx:X.heap.size<=bx) (_hbt:w.heap.size<=bt) (hpg:0<=pg/\pg<2199023255552):
  CT.wp Yq.prog (bodyPost Yq.prog Tryz.f43 fun e w'=>(∃sv,e=.returned (.tuple #[.agg #[sv,.string tk],.int .i64 0])/\aQ A B k0 w ⟨L.opened,L.begun,if tk=⟨#[]⟩ then L.told else ln tk (n,pg+1) L.told,L.tm⟩ pgI sv w')\/Stop Qok e w') ⟨rV k0 r0 bt bx u,[]⟩ W7:=by
 have hlow:=h.low;have hlt:=h.lt;have hsX:=hd.size;have hs7:=hl.size;have hk:k0≠r0:=by omega
 have hcb:cn X r0:=⟨_,b0,rfl⟩;have e0:W7.heap[r0]?=some (.cells #[.slice none 0 0,.string ⟨#[]⟩] 88):=(hl.block r0 hr2).trans b0;have hbt2:bt<X.heap.size:=(eS b1).1;have e1:W7.heap[bt]?=some (.cells #[.int .i64 n,.int .i64 pg] 129):=(hl.block bt hbt2).trans b1;have s0:W7.cell? ⟨r0,0,none⟩=some (.slice none 0 0):=by simp [World.cell?,e0]
 have s1:W7.cell? ⟨r0,1,none⟩=some (.string ⟨#[]⟩):=by simp [World.cell?,e0]
 have y0:W7.frozen? ⟨r0,0,none⟩=false:=by simp [World.frozen?,e0]
 have y1:W7.frozen? ⟨r0,1,none⟩=false:=by simp [World.frozen?,e0]
 have p0:W7.cell? ⟨bt,0,none⟩=some (.int .i64 n):=by simp [World.cell?,e1]
 have p1:W7.cell? ⟨bt,1,none⟩=some (.int .i64 pg):=by simp [World.cell?,e1]
 have HL:=Ci hfx h hw hd hl hrow hr1 hr2 hB hv hcb;have HK:=Cj hfx h hw hd hl hrow hr1 hr2 hB hv hcb tk (n,pg+1);have hwr:wrap64 (pg+1)=pg+1:=by unfold wrap64;omega
 have hbq:=nw;have HHL:Hid (∀y0 y1,aQ A B k0 w L pgI (.slice so sn sc) ((W7.setCell ⟨r0,0,none⟩ y0).setCell ⟨r0,1,none⟩ y1)):=HL;unfold plV at HK;generalize hQ:bodyPost Yq.prog Tryz.f43 _=Q;have HQ:Hid (bodyPost Yq.prog Tryz.f43 _=Q):=hQ;clear hQ HL h hw hd hl hrow hfx hv b0 b1 e0 e1 hcb;unfold rV;dsimp only [CT,bm,Tryz.f43,fD,bM,Option.getD];by_cases htk:tk=⟨#[]⟩
 .subst htk;go_wp2_with fail
  rw [<-HQ.out];refine bodyPost_ret (v:=.tuple #[.agg #[.slice so sn sc,.string ⟨#[]⟩],.int .i64 0]) (by simp [results,Tryz.results43,go_sem,s0,s1]) rfl (.inl ⟨_,rfl,?_⟩);simp only [if_true];exact HHL.out _ _
 .have hne':¬tk.toList=[]:=fun hx=>by
   have:(tk==(⟨#[]⟩:ByteArray))=true:=by rw [beq_toListBytes];simpa using hx
   exact htk ((MapKept.bytes_beq _ _).1 this)
  have hne:(tk.toList == [])=false:=by simpa using hne'
  have hbk:bx≠k0:=by omega
  go_wp2_with (go_at_call 70;refine HK.mono ?_;clear HK;rintro e w8 ⟨rfl,hk8,hfin⟩;have c0':=hk8.cell c0 hbk;have c1':=hk8.cell c1 hbk;have s0':=hk8.cell s0 hk.symm;have s1':=hk8.cell s1 hk.symm;have y0':=(hk8.frozen s0 hk.symm).trans y0;have y1':=(hk8.frozen s1 hk.symm).trans y1)
  rw [<-HQ.out];refine bodyPost_ret (v:=.tuple #[.agg #[.slice so sn sc,.string tk],.int .i64 0]) (by simp [results,Tryz.results43,go_sem,s0',s1']) rfl (.inl ⟨_,rfl,?_⟩);rw [if_neg htk];exact hfin _ _
end
section
variable {A:Nat->Prop} {B k0:Nat} {L:Lg}
theorem zW (Qok:Qy->Prop)(hQ:∀q,Qok q->gp q/\gq q)(w:Wz)(h:di A B w k0 L)(hB:B<=w.heap.size)(tok:ByteArray)(n pg:Int)(i:Nat)(x:LsA)(hop:L.opened.length<=3)(hf:ec tok L.told=some (n,pg))(hn:kC n L.opened=some i)(hx:L.opened[i]?=some x)(hq:Qok x.q)(hsum:fV (bI x.f x.q.p.data.toList)<=1000)(hp:x.q.p.size<=maxLen)(hpg:0<=pg/\pg<2199023255552)(G:Wz->Prop)(hGg:∀w',G w'->cM w')(hG:∀w',aI A B k0 w w'->G w')(hT:jK G n (pg+1)):
  Calls Yq.prog 43 #[.pointer (some ⟨k0,4,none⟩),.string tok] w fun e w'=>
   (∃sv,e=.returned (.tuple #[.agg #[sv,.string (x.tok pg)],.int .i64 0])/\aQ A B k0 w ⟨L.opened.set i (x.again 10),L.begun,if x.tok pg=⟨#[]⟩ then L.told else ln (x.tok pg) (n,pg+1) L.told,L.tm⟩ (x.page pg) sv w')\/Stop Qok e w':=by
 obtain ⟨mv,c6,hm⟩:=h.told;obtain ⟨v4,c4,zs,z1,z2,z3,z4⟩:=h.opened;have hlz:L.opened.length=zs.length:=by rw [z1];simp
 have hxn:x.num=n:=by
  obtain ⟨h1,h2,-⟩:=List.findIdx?_eq_some_iff_getElem.1 hn;rw [eL h1] at hx;cases hx;simpa using h2
 have hi:i<zs.length:=by rw [<-hlz];exact (sL hx).1
 have hzi:zs[i].1=x:=by
  rw [z1,List.getElem?_map,eL hi] at hx;simpa using hx
 obtain ⟨g,cap,hv4⟩:∃g cap,v4=.slice (some ⟨g,0,none⟩) zs.length cap:=by
  rcases z2.2 with ⟨h1,h2⟩|⟨g,cap,cur,h1,-⟩
  .omega
  .exact ⟨g,cap,h1⟩
 subst hv4;have z3':¬A g:=z3 g rfl;have hgw:=(z2.lt g rfl);have hlt:=h.lt;have hlow:=h.low;have hk1:k0<w.heap.size+1:=by omega
 have hlk:=kw (hm.left (aj.refl.alloc (.cells #[.slice none 0 0,.string ⟨#[]⟩] 88))) tok;rw [hf] at hlk;simp only [Option.getD_some,Option.isSome_some,plV] at hlk;obtain ⟨W,hW⟩:∃W,W=(w.alloc (.cells #[.slice none 0 0,.string ⟨#[]⟩] 88)).alloc (.cells #[.int .i64 n,.int .i64 pg] 129):=⟨_,rfl⟩;have hLW:aj w W:=by rw [hW];exact (aj.refl.alloc _).alloc _
 have hWs:W.heap.size=w.heap.size+2:=by rw [hW];simp
 have rW0:W.heap[w.heap.size]?=some (.cells #[.slice none 0 0,.string ⟨#[]⟩] 88):=by
  rw [hW,bA _ _ _ (by simp)];exact aN _ _
 have rW1:W.heap[w.heap.size+1]?=some (.cells #[.int .i64 n,.int .i64 pg] 129):=by
  rw [hW];have:=aN (w.alloc (.cells #[.slice none 0 0,.string ⟨#[]⟩] 88)) (.cells #[.int .i64 n,.int .i64 pg] 129)
  rwa [World.size_alloc] at this
 have hIX:=vw B (some ⟨g,0,none⟩) cap zs (w.heap.size+1) n W (bc z2 fun g _ hg=>hLW.block g hg) (by omega) (by simp [World.cell?,rW1]);rw [<-z1,hn] at hIX;simp only [Option.map_some,Option.getD_some] at hIX;obtain ⟨tk,htk⟩:∃tk,tk=x.tok pg:=⟨_,rfl⟩;obtain ⟨pgI,hpgI⟩:∃pgI,pgI=x.page pg:=⟨_,rfl⟩;have HA:Hid (∀w1,Below W.heap.size W w1->(w1.cell? ⟨k0,4,none⟩=some (.slice (some ⟨g,0,none⟩) zs.length cap)/\w1.frozen? ⟨g,i * 8+7,none⟩=false/\w1.cell? ⟨g,i * 8+7,none⟩=some (.int .i64 x.left)) /\
   (∀X,X=w1.setCell ⟨g,i * 8+7,none⟩ (.int .i64 10)->di A B X k0 {L with opened:=L.opened.set i (x.again 10)}/\aI A B k0 w X/\ai A 41 X zs[i].2 x.f/\(X.cell? ⟨k0,4,none⟩=some (.slice (some ⟨g,0,none⟩) zs.length cap)/\k0<X.heap.size/\g<X.heap.size/\w.heap.size+2<=X.heap.size) /\
    (X.cell? ⟨g,i * 8,none⟩=some (.int .i64 n)/\X.cell? ⟨g,i * 8+1,none⟩=some (.pointer zs[i].2)/\X.cell? ⟨g,i * 8+2,none⟩=some (.bool x.q.vs)/\X.cell? ⟨g,i * 8+3,none⟩=some (.string x.q.p)/\X.cell? ⟨g,i * 8+4,none⟩=some (.string x.q.d)/\X.cell? ⟨g,i * 8+5,none⟩=some (.string x.q.af)/\X.cell? ⟨g,i * 8+6,none⟩=some (.int .i64 x.size)/\X.cell? ⟨g,i * 8+7,none⟩=some (.int .i64 10)) /\
    X.heap[w.heap.size]?=some (.cells #[.slice none 0 0,.string ⟨#[]⟩] 88)/\X.heap[w.heap.size+1]?=some (.cells #[.int .i64 n,.int .i64 pg] 129)/\FrC k0 w X)):=fun w1 hb1=>by
  have hl1:aj w w1:=hLW.trans (.below hb1);have z2w:w1.ownsRow B 125 8 (.slice (some ⟨g,0,none⟩) zs.length cap) zs.length (aV zs):=bc z2 fun g _ hg=>hl1.block g hg
  have q7:=(kz z2w i hi).2.2.2.2.2.2.2;rw [hzi] at q7;have hfz:w1.frozen? ⟨g,i * 8+7,none⟩=false:=by
   rcases z2w.2 with ⟨h1,-⟩|⟨g',cap',cur,h1,-,hr,-⟩
   .cases h1
   .cases h1;simp [World.frozen?,hr]
  refine ⟨⟨hl1.cell c4,hfz,q7⟩,fun X hX=>?_⟩;obtain ⟨s1,s2,s3,s4⟩:=(h.left hl1).setLeft (hl1.cell c4) z1 z2w z3' (fun z hz=>ai.keep (fun b hb hb2=>⟨hb,hl1.block b hb2⟩) 41 _ _ (z4 z hz)) i hi 10;rw [hzi] at s1 s3 s4;rw [<-hX] at s1 s2 s3 s4;have hset:(zs.set i (x.again 10,zs[i].2))[i]?=some (x.again 10,zs[i].2):=by simp [hi]
  have hi2:i<(zs.set i (x.again 10,zs[i].2)).length:=by simpa using hi
  have s3':X.ownsRow B 125 8 (.slice (some ⟨g,0,none⟩) (zs.set i (x.again 10,zs[i].2)).length cap) (zs.set i (x.again 10,zs[i].2)).length (aV (zs.set i (x.again 10,zs[i].2))):=by simpa using s3
  have hc:=kz s3' i hi2;have e1:(zs.set i (x.again 10,zs[i].2))[i]=(x.again 10,zs[i].2):=by simp
  rw [e1] at hc;have hsz:=hl1.size;have hXs:X.heap.size=w1.heap.size:=by rw [hX];simp
  have hot:∀b,b≠g->X.heap[b]?=w1.heap[b]?:=fun b hb=>by rw [hX];exact bS _ _ _ _ hb
  have hW1:=hb1.size;refine ⟨s1,(aI.left hlt hl1).trans s2,s4 (x.again 10,zs[i].2) (List.mem_iff_getElem?.2 ⟨i,hset⟩),⟨(cB (a:=⟨k0,4,none⟩) (hot k0 (by omega))).trans (hl1.cell c4),by omega,by omega,by omega⟩,⟨by rw [<-hxn];exact hc.1,hc.2.1,hc.2.2.1,hc.2.2.2.1,hc.2.2.2.2.1,hc.2.2.2.2.2.1,hc.2.2.2.2.2.2.1,hc.2.2.2.2.2.2.2⟩,?_,?_,?_⟩
  .rw [hot _ (by omega),hb1.block _ (by omega)];exact rW0
  .rw [hot _ (by omega),hb1.block _ (by omega)];exact rW1
  .rw [hX];exact (FrC.left hlt hl1).trans (FrC.open ⟨_,hl1.cell c4,rfl⟩ (by omega))
 have HP:Hid (∀w1 X,Below W.heap.size W w1->X=w1.setCell ⟨g,i * 8+7,none⟩ (.int .i64 10)->∀V,aj X V->Calls Yq.prog 69 #[.agg #[.int .i64 n,.pointer zs[i].2,.bool x.q.vs,.string x.q.p,.string x.q.d,.string x.q.af,.int .i64 x.size,.int .i64 10],.int .i64 pg] V fun e w'=>(∃v,e=.returned v/\(∃so sn sc,v=.agg #[.slice so sn sc,.string tk]/\w'.ownsRow V.heap.size 41 3 (.slice so sn sc) pgI.length (ax pgI)/\aj V w'))\/∃ch,e=.panicked ch/\Stop Qok (.panicked ch) w'):=fun w1 X hb1 hX V hV=>by
  obtain ⟨-,hXX⟩:=HA.out w1 hb1;obtain ⟨s1,s2,s3,s4,-⟩:=hXX X hX;have hpre:E5 Qok ((x.again 10).lst zs[i].2) x.f V:=⟨.of (ai.keep (A':=fun _=>True) (fun b _ hlt=>⟨trivial,hV.block b hlt⟩) 41 _ _ s3),hq,hsum,hp,hGg _ (hG _ (s2.trans (aI.left s4.2.1 hV)))⟩;have hwr:IntKind.i64.wrap (pg+1)=pg+1:=by rw [ko];unfold wrap64;omega
  have HP0:=ud Qok hQ ((x.again 10).lst zs[i].2) pg x.f V hpre G (fun w' hl=>hG w' ((s2.trans (aI.left s4.2.1 hV)).trans (aI.left (lL s4.2.1 hV.size) hl))) (fun _=>by
   rw [hwr];show jK G x.num (pg+1);rw [hxn];exact hT)
  rw [show lV ((x.again 10).lst zs[i].2)=.agg #[.int .i64 n,.pointer zs[i].2,.bool x.q.vs,.string x.q.p,.string x.q.d,.string x.q.af,.int .i64 x.size,.int .i64 10] by rw [<-hxn];rfl] at HP0;refine HP0.mono ?_;rintro e w' (⟨sv,rfl,h3,h4⟩|hs)
  .left
   rw [gr (l:=(x.again 10).lst zs[i].2) (l':=x.lst none) rfl] at h3;obtain ⟨so,sn,rfl,-⟩:=ay h3;rw [htk,hpgI];exact ⟨_,rfl,so,_,sn,rfl,h3,h4⟩
  .obtain ⟨a,b,r,rfl,hst⟩:=hs;exact .inr ⟨_,rfl,a,b,r,rfl,hst⟩
 have HEN:Hid (∀ (args:Array Wq) (wx:Wz),(callFunc 69 args).run Yq.prog wx=.ok (.enter 69 args) wx):=fun args wx=>by go_simp
 have HW:Hid (∀b,A b->b<w.heap.size):=h.inn;have hiI:¬((i:Int)<0):=by omega
 have hbp:=eH;rw [<-htk,<-hpgI];clear htk hpgI;clear h hm z1 z2 z3 z4 hLW rW0 rW1 hq hsum hp hG hGg hT hQ hx hn hf;subst hW;go_enter (Yq.nq Tryz.func43),Tryz.ntmps43
 go_upto_region 8 with (go_at_call 71;refine hIX.mono ?_;clear hIX;rintro e w1 ⟨rfl,hb1⟩;obtain ⟨⟨m4,f7,q7⟩,-⟩:=HA.out w1 hb1)
 obtain ⟨X,hX⟩:∃X,X=w1.setCell ⟨g,i * 8+7,none⟩ (.int .i64 10):=⟨_,rfl⟩;rw [<-hX];obtain ⟨-,hXX⟩:=HA.out w1 hb1;obtain ⟨s1,s2,s3,⟨x4,xk,xg,xs⟩,⟨q0,q1,q2,q3,q4,q5,q6,q8⟩,b0,b1,hfx⟩:=hXX X hX;have p0:X.cell? ⟨w.heap.size+1,0,none⟩=some (.int .i64 n):=by simp [World.cell?,b1]
 have p1:X.cell? ⟨w.heap.size+1,1,none⟩=some (.int .i64 pg):=by simp [World.cell?,b1]
 have xw:w.heap.size+1<X.heap.size:=by omega
 have HS:Hid (di A B X k0 {L with opened:=L.opened.set i (x.again 10)}/\aI A B k0 w X/\X.heap[w.heap.size]?=some (.cells #[.slice none 0 0,.string ⟨#[]⟩] 88)/\X.heap[w.heap.size+1]?=some (.cells #[.int .i64 n,.int .i64 pg] 129)/\X=w1.setCell ⟨g,i * 8+7,none⟩ (.int .i64 10)):=⟨s1,s2,b0,b1,hX⟩;have HFX:Hid (FrC k0 w X):=hfx;have HV:Hid (∀w2,aj (X.alloc (.cells #[.slice none 0 0,.string ⟨#[]⟩] 88)).drew w2->w2.cell? ⟨X.heap.size,0,none⟩=some (.slice none 0 0)/\w2.cell? ⟨X.heap.size,1,none⟩=some (.string ⟨#[]⟩)/\w2.frozen? ⟨X.heap.size,0,none⟩=false/\w2.frozen? ⟨X.heap.size,1,none⟩=false):=fun w2 hl=>by
  have e:w2.heap[X.heap.size]?=some (.cells #[.slice none 0 0,.string ⟨#[]⟩] 88):=(hl.block _ (by simp)).trans (aN X _);exact ⟨by simp [World.cell?,e],by simp [World.cell?,e],by simp [World.frozen?,e],by simp [World.frozen?,e]⟩
 clear hXX s1 s2 s3 b0 b1 hX hfx;have HVC:Hid (∀v g',X.cell? ⟨k0,4,none⟩=some v->v.ownBlock=some g'->g'≠w.heap.size):=fun v g' hv hg'=>by
  rw [x4] at hv;cases hv;cases hg';show g≠w.heap.size;omega
 rename_i K1 hK1;have HKK:Hid (∀ (a:Act) (W7:Wz) (bx:Nat) (so:Option Addr) (sn sc:Nat),a=⟨rV k0 w.heap.size (w.heap.size+1) bx (fun i=>a.tmps.getD i undef),[]⟩->aj X W7->W7.ownsRow X.heap.size 41 3 (.slice so sn sc) pgI.length (ax pgI)->W7.cell? ⟨bx,0,none⟩=some (.slice so sn sc)->W7.cell? ⟨bx,1,none⟩=some (.string tk)->X.heap.size<=bx->K1 a W7):=fun a W7 bx so sn sc ha hl hrow c0 c1 hbx=>by
  refine hK1 a W7 ?_;rw [ha];have:=zV (L:={L with opened:=L.opened.set i (x.again 10)}) Qok (u:=fun i=>a.tmps.getD i undef) HFX.out HS.out.1 HW.out HS.out.2.1 hl hrow (lR _) (by omega) hB HVC.out HS.out.2.2.1 HS.out.2.2.2.1 c0 c1 hbx (by omega) hpg;exact this
 have HFA:Hid (∀w2 so sn sc,aj X.drew w2->w2.ownsRow X.drew.heap.size 41 3 (.slice so sn sc) pgI.length (ax pgI)->∀a,a=⟨rV k0 w.heap.size (w.heap.size+1) w2.heap.size (fun i=>a.tmps.getD i undef),[]⟩->K1 a (w2.alloc (.cells #[.slice so sn sc,.string tk] 88))):=fun w2 so sn sc hl2 hrow a ha=>by
  have hlX:aj X w2:=(aj.refl.drew).trans hl2;refine HKK.out a _ w2.heap.size so sn sc ha (hlX.alloc _) (bc hrow fun g _ hg=>bA _ _ _ hg) ?_ ?_ hlX.size
  .rw [cA (w:=w2) _ _ w2.heap.size 0 rfl];rfl
  .rw [cA (w:=w2) _ _ w2.heap.size 1 rfl];rfl
 have HFB:Hid (∀w2 so sn sc,aj (X.alloc (.cells #[.slice none 0 0,.string ⟨#[]⟩] 88)).drew w2->w2.ownsRow (X.alloc (.cells #[.slice none 0 0,.string ⟨#[]⟩] 88)).drew.heap.size 41 3 (.slice so sn sc) pgI.length (ax pgI)->∀a,a=⟨rV k0 w.heap.size (w.heap.size+1) X.heap.size (fun i=>a.tmps.getD i undef),[]⟩->K1 a ((w2.setCell ⟨X.heap.size,0,none⟩ (.slice so sn sc)).setCell ⟨X.heap.size,1,none⟩ (.string tk))):=fun w2 so sn sc hl2 hrow a ha=>by
  have hlX:aj X w2:=((aj.refl.alloc _).drew).trans hl2;obtain ⟨v0,v1,o0,o1⟩:=HV.out w2 hl2;have hbs:(X.alloc (.cells #[.slice none 0 0,.string ⟨#[]⟩] 88)).drew.heap.size=X.heap.size+1:=by simp
  refine HKK.out a _ X.heap.size so sn sc ha ((hlX.set (lR _) _ _).set (lR _) _ _) (jE (bc hrow fun g h1 hg=>?_) (by omega)) ?_ ?_ (lR _)
  .rw [bS _ _ _ _ (show g≠X.heap.size by omega),bS _ _ _ _ (show g≠X.heap.size by omega)]
  .rw [cO _ _ _ _ (bE (by omega))];exact cS _ _ _ (by rw [v0];rfl)
  .exact cS _ _ _ (by rw [cO _ _ _ _ (bE (by omega)),v1];rfl)
 clear hK1
 go_region_law (first
  |(refine bX rfl 69 #[.tmp 44,.tmp 46] #[125,3] rfl #[.agg #[.int .i64 n,.pointer zs[i].2,.bool x.q.vs,.string x.q.p,.string x.q.d,.string x.q.af,.int .i64 x.size,.int .i64 10],.int .i64 pg] (by simp [Act.eval]) (HEN.out _ _) _ (fun ch w'=>Stop Qok (.panicked ch) w') (HP.out w1 X hb1 HS.out.2.2.2.2 X.drew aj.refl.drew) (fun ch w' hs=>⟨rfl,Or.inr hs⟩) ?_;rintro v w2 ⟨so,sn,sc,rfl,hrow,hl2⟩;have HE:Hid (_/\_):=And.intro hrow hl2;clear hrow hl2)
  |(refine bX rfl 69 #[.tmp 44,.tmp 46] #[125,3] rfl #[.agg #[.int .i64 n,.pointer zs[i].2,.bool x.q.vs,.string x.q.p,.string x.q.d,.string x.q.af,.int .i64 x.size,.int .i64 10],.int .i64 pg] (by simp [Act.eval]) (HEN.out _ _) _ (fun ch w'=>Stop Qok (.panicked ch) w') (HP.out w1 X hb1 HS.out.2.2.2.2 (X.alloc (.cells #[.slice none 0 0,.string ⟨#[]⟩] 88)).drew (aj.refl.alloc _).drew) (fun ch w' hs=>⟨rfl,Or.inr hs⟩) ?_;rintro v w2 ⟨so,sn,sc,rfl,hrow,hl2⟩;obtain ⟨v0,v1,o0,o1⟩:=HV.out w2 hl2;have HE:Hid (_/\_):=And.intro hrow hl2;clear hrow hl2))
 all_goals first
  |exact HFA.out w2 so sn sc HE.out.2 HE.out.1 _ rfl
  |exact HFB.out w2 so sn sc HE.out.2 HE.out.1 _ rfl
end
theorem Eh {A:Nat->Prop}{B k0:Nat}{L:Lg}(Qok:Qy->Prop)(hQ:∀q,Qok q->gp q/\gq q)(w:Wz)(h:di A B w k0 L)(hB:B<=w.heap.size)(tok:ByteArray)(hop:L.opened.length<=3)(hinv:∀x∈L.opened,Qok x.q/\fV (bI x.f x.q.p.data.toList)<=1000/\x.q.p.size<=maxLen)(hpg:∀n pg,ec tok L.told=some (n,pg)->0<=pg/\pg<2199023255552)(G:Wz->Prop)(hGg:∀w',G w'->cM w')(hG:∀w',aI A B k0 w w'->G w')(hT:∀n pg,ec tok L.told=some (n,pg)->(kC n L.opened).isSome=true->jK G n (pg+1)):
  Calls Yq.prog 43 #[.pointer (some ⟨k0,4,none⟩),.string tok] w fun e w'=>
   (∃sv,e=.returned (.tuple #[.agg #[sv,.string (fx L tok).2.2.1],.int .i64 (fx L tok).2.2.2])/\aQ A B k0 w (fx L tok).1 (fx L tok).2.1 sv w')\/Stop Qok e w':=by
 cases hf:ec tok L.told with
 |none=>
  have e:fx L tok=(L,[],⟨#[]⟩,9):=by simp [fx,hf]
  rw [e];exact (zS w h tok hf).mono fun e w' h=>.inl ⟨_,h.1,h.2⟩
 |some x=>
  obtain ⟨n,pg⟩:=x;cases hn:kC n L.opened with
  |none=>
   have e:fx L tok=(L,[],⟨#[]⟩,10):=by simp [fx,hf,hn]
   rw [e];exact (zT w h tok n pg hop hf hn).mono fun e w' h=>.inl ⟨_,h.1,h.2⟩
  |some i=>
   have hi:i<L.opened.length:=(List.findIdx?_eq_some_iff_getElem.1 hn).1;have hx:L.opened[i]?=some L.opened[i]:=eL hi;have e:fx L tok=(⟨L.opened.set i (L.opened[i].again 10),L.begun,if L.opened[i].tok pg=⟨#[]⟩ then L.told else ln (L.opened[i].tok pg) (n,pg+1) L.told,L.tm⟩,L.opened[i].page pg,L.opened[i].tok pg,0):=by simp [fx,hf,hn,hx]
   rw [e];obtain ⟨h1,h2,h3⟩:=hinv L.opened[i] (List.getElem_mem hi);exact zW Qok hQ w h hB tok n pg i L.opened[i] hop hf hn hx h1 h2 h3 (hpg n pg hf) G hGg hG (hT n pg hf (by simp [hn]))
section
variable {A:Nat->Prop} {B k0:Nat} {L:Lg}
theorem nz (Qok:Qy->Prop)(hQ:∀q,Qok q->gp q/\gq q)(w:Wz)(h:di A B w k0 L)(_hB:B<=w.heap.size)(root:Option Addr)(f:List UInt8->List Ver)(q:Qy)(size:Int)(hN:ai A 41 w root f)(hq:Qok q)(hsum:fV (bI f q.p.data.toList)<=1000)(hp:q.p.size<=maxLen)(hbg:0<=L.begun/\L.begun<2199023255552)(hop:L.opened.length<=3)(G:Wz->Prop)(hGg:∀w',G w'->cM w')(hG:∀w',aj w w'->G w')(hT:jK G (L.begun+1) 2)(hold:(size<1\/20<size)\/(iH L f q size).tok 1=⟨#[]⟩\/3<=L.opened.length):
  Calls Yq.prog 40 #[.pointer (some ⟨k0,4,none⟩),sV root,qV q.vs q.p q.d q.af,.int .i64 size] w fun e w'=>
   (∃sv,e=.returned (.tuple #[.agg #[sv,.string (d7 L f q size).2.2.1],.int .i64 (d7 L f q size).2.2.2])/\aQ A B k0 w (d7 L f q size).1 (d7 L f q size).2.1 sv w')\/Stop Qok e w':=by
 have c5:=h.begun;obtain ⟨v4,c4,zs,z1,z2,z3,z4⟩:=h.opened;obtain ⟨va4,vc4,rfl,-⟩:=ay z2;have hlz:L.opened.length=zs.length:=by rw [z1];simp
 have hlt:=h.lt;have HL:Hid (di A B w k0 L):=h;obtain ⟨vs,p,d,af⟩:=q;unfold sV qV;by_cases hsz:size<1\/20<size
 .have hR:d7 L f ⟨vs,p,d,af⟩ size=(L,[],⟨#[]⟩,7):=by rw [d7,if_pos hsz]
  rw [hR];have hbp:=eH;clear hN hq hsum hp hbg hop hT hG hGg h hQ z1 z2 z3 z4 c4 c5;rcases hsz with h1|h2
  .go_enter (Yq.nq Tryz.func40),Tryz.ntmps40;go_wp2_with fail
   refine bodyPost_ret (v:=.tuple #[.agg #[.slice none 0 0,.string ⟨#[]⟩],.int .i64 7]) (by simp [results,Tryz.results40,go_sem]) rfl (.inl ⟨_,rfl,aQ.same HL.out (((aj.refl.alloc _).alloc _).alloc _)⟩)
  .have h1:¬size<1:=by omega
   go_enter (Yq.nq Tryz.func40),Tryz.ntmps40;go_wp2_with fail
   refine bodyPost_ret (v:=.tuple #[.agg #[.slice none 0 0,.string ⟨#[]⟩],.int .i64 7]) (by simp [results,Tryz.results40,go_sem]) rfl (.inl ⟨_,rfl,aQ.same HL.out (((aj.refl.alloc _).alloc _).alloc _)⟩)
 .have h1:¬size<1:=by omega
  have h2:¬20<size:=by omega
  have hbl:=rR;have hbp:=eH;have hwb:wrap64 (L.begun+1)=L.begun+1:=by unfold wrap64;omega
  have hk1:k0<w.heap.size+1:=by omega
  have hk2:k0<w.heap.size+1+1:=by omega
  have hk3:k0<w.heap.size+1+1+1:=by omega
  obtain ⟨V,hV⟩:∃V,V=((((w.alloc (.cells #[.pointer root] 56)).alloc (.cells #[.bool vs,.string p,.string d,.string af] 93)).alloc (.cells #[.slice none 0 0,.string ⟨#[]⟩] 88)).alloc (.cells #[.int .i64 (L.begun+1),.pointer root,.bool vs,.string p,.string d,.string af,.int .i64 size,.int .i64 10] 125)).drew:=⟨_,rfl⟩;have hLV:aj w V:=by rw [hV];exact ((((aj.refl.alloc _).alloc _).alloc _).alloc _).drew
  have hVs:V.heap.size=w.heap.size+4:=by rw [hV];simp
  have hpre:E5 Qok ((iH L f ⟨vs,p,d,af⟩ size).lst root) f V:=⟨.of (ai.keep (A':=fun _=>True) (fun b _ hlt=>⟨trivial,hLV.block b hlt⟩) 41 root f hN),hq,hsum,hp,hGg _ (hG _ hLV)⟩;have HP0:=ud Qok hQ ((iH L f ⟨vs,p,d,af⟩ size).lst root) 1 f V hpre G (fun w' hl=>hG w' (hLV.trans hl)) (fun _=>hT);obtain ⟨tk,htk⟩:∃tk,tk=(iH L f ⟨vs,p,d,af⟩ size).tok 1:=⟨_,rfl⟩;obtain ⟨pg,hpg⟩:∃pg,pg=(iH L f ⟨vs,p,d,af⟩ size).page 1:=⟨_,rfl⟩;have HP:Calls Yq.prog 69 #[.agg #[.int .i64 (L.begun+1),.pointer root,.bool vs,.string p,.string d,.string af,.int .i64 size,.int .i64 10],.int .i64 1] V fun e w'=>(∃so sn sc,e=.returned (.agg #[.slice so sn sc,.string tk])/\w'.ownsRow V.heap.size 41 3 (.slice so sn sc) pg.length (ax pg)/\aj V w')\/Stop Qok e w':=by
   refine HP0.mono ?_;rintro e w' (⟨sv,rfl,h3,h4⟩|h)
   .left
    rw [htk,hpg];rw [gr (l:=(iH L f ⟨vs,p,d,af⟩ size).lst root) (l':=(iH L f ⟨vs,p,d,af⟩ size).lst none) rfl] at h3;obtain ⟨so,sn,sc,rfl⟩:∃so sn sc,sv=.slice so sn sc:=by
     rcases h3.2 with ⟨rfl,-⟩|⟨g,cap,cur,rfl,-⟩
     .exact ⟨_,_,_,rfl⟩
     .exact ⟨_,_,_,rfl⟩
    exact ⟨so,sn,sc,rfl,h3,h4⟩
   .exact .inr h
  clear HP0;have HF:Hid (∀w1,aj V w1->((w1.cell? ⟨w.heap.size+1+1+1,0,none⟩=some (.int .i64 (L.begun+1))/\w1.cell? ⟨w.heap.size+1+1+1,1,none⟩=some (.pointer root)/\w1.cell? ⟨w.heap.size+1+1+1,2,none⟩=some (.bool vs)/\w1.cell? ⟨w.heap.size+1+1+1,3,none⟩=some (.string p)/\w1.cell? ⟨w.heap.size+1+1+1,4,none⟩=some (.string d)/\w1.cell? ⟨w.heap.size+1+1+1,5,none⟩=some (.string af)/\w1.cell? ⟨w.heap.size+1+1+1,6,none⟩=some (.int .i64 size)/\w1.cell? ⟨w.heap.size+1+1+1,7,none⟩=some (.int .i64 10)) /\
    (w1.cell? ⟨w.heap.size+1+1,0,none⟩=some (.slice none 0 0)/\w1.cell? ⟨w.heap.size+1+1,1,none⟩=some (.string ⟨#[]⟩)/\w1.frozen? ⟨w.heap.size+1+1,0,none⟩=false/\w1.frozen? ⟨w.heap.size+1+1,1,none⟩=false) /\
    (w1.cell? ⟨k0,4,none⟩=some (.slice va4 zs.length vc4)/\w1.cell? ⟨k0,5,none⟩=some (.int .i64 L.begun)/\w1.frozen? ⟨k0,4,none⟩=false/\w1.frozen? ⟨k0,5,none⟩=false)/\(w.heap.size+1+1<w1.heap.size/\w.heap.size+1+1+1<w1.heap.size/\k0<w1.heap.size))):=fun w1 hl=>by
   have r3:V.heap[w.heap.size+3]?=some (.cells #[.int .i64 (L.begun+1),.pointer root,.bool vs,.string p,.string d,.string af,.int .i64 size,.int .i64 10] 125):=by
    rw [hV];simp only [World.drew,World.alloc,gP,Array.size_push]
    repeat rw [if_neg (by omega)]
    simp
   have r2:V.heap[w.heap.size+2]?=some (.cells #[.slice none 0 0,.string ⟨#[]⟩] 88):=by
    rw [hV];simp only [World.drew,World.alloc,gP,Array.size_push]
    repeat rw [if_neg (by omega)]
    simp
   have e3:=(hl.block _ (by omega)).trans r3;have e2:=(hl.block _ (by omega)).trans r2;have hfz:∀j,w1.frozen? ⟨k0,j,none⟩=false:=fun j=>(fB (a:=⟨k0,j,none⟩) ((hLV.trans hl).block k0 hlt)).trans (HL.out.frozen j)
   have:=hl.size;refine ⟨⟨?_,?_,?_,?_,?_,?_,?_,?_⟩,⟨?_,?_,?_,?_⟩,⟨(hLV.trans hl).cell c4,(hLV.trans hl).cell c5,hfz 4,hfz 5⟩,by omega,by omega,by omega⟩;all_goals simp [World.cell?,World.frozen?,e3,e2]
  have HX:Hid (aj w V/\ai A 41 w root f/\V.heap.size=w.heap.size+4):=⟨hLV,hN,hVs⟩;have HZ:Hid (L.opened=zs.map (·.1)/\w.ownsRow B 125 8 (.slice va4 zs.length vc4) zs.length (aV zs)/\(∀g,(Value.slice va4 zs.length vc4).ownBlock=some g->¬A g)/\∀z∈zs,ai A 41 w z.2 z.1.f):=⟨z1,z2,z3,z4⟩;have HB:Hid (d7 L f ⟨vs,p,d,af⟩ size=(if tk=⟨#[]⟩ then (L,pg,⟨#[]⟩,0) else if 3<=L.opened.length then (L,[],⟨#[]⟩,8) else (⟨L.opened++[iH L f ⟨vs,p,d,af⟩ size],L.begun+1,ln tk (L.begun+1,2) L.told,L.tm⟩,pg,tk,0))):=by
   show d7 L f ⟨vs,p,d,af⟩ size=_;rw [d7,if_neg hsz,htk,hpg]
  generalize d7 L f ⟨vs,p,d,af⟩ size=R at *;have HV:Hid (V=((((w.alloc (.cells #[.pointer root] 56)).alloc (.cells #[.bool vs,.string p,.string d,.string af] 93)).alloc (.cells #[.slice none 0 0,.string ⟨#[]⟩] 88)).alloc (.cells #[.int .i64 (L.begun+1),.pointer root,.bool vs,.string p,.string d,.string af,.int .i64 size,.int .i64 10] 125)).drew):=hV;have HTK:Hid (tk=(iH L f ⟨vs,p,d,af⟩ size).tok 1):=htk;clear hV hLV hVs hpre htk hpg hN z1 z2 z3 z4 hG hGg hT hq hsum hp h hQ;by_cases htk:tk=⟨#[]⟩
  .subst htk;have hR:R=(L,pg,⟨#[]⟩,0):=by rw [HB.out,if_pos rfl]
   subst hR;go_enter (Yq.nq Tryz.func40),Tryz.ntmps40;go_wp2_with fail
   go_region
   rw [<-HV.out];obtain ⟨⟨a0,a1,a2,a3,a4,a5,a6,a7⟩,-⟩:=HF.out V aj.refl;go_wp2_with (go_at_call 69;refine HP.mono ?_;clear HP;rintro e w1 (⟨so,sn,sc,rfl,hrow,hl1⟩|⟨x,y,r,rfl,hst⟩);rotate_left;exact ⟨rfl,Or.inr ⟨x,y,r,rfl,hst⟩⟩;obtain ⟨⟨q0,q1,q2,q3,q4,q5,q6,q7⟩,⟨s0,s1,z0,z1⟩,⟨m4,m5,n4,n5⟩,y2,y3,yk⟩:=HF.out w1 hl1)
   obtain ⟨hLV,-,hVs⟩:=HX.out;have hot:∀b,b≠w.heap.size+1+1->b<w1.heap.size->(((w1.setCell ⟨w.heap.size+1+1,0,none⟩ (.slice so sn sc)).setCell ⟨w.heap.size+1+1,1,none⟩ (.string ⟨#[]⟩)).alloc (.cells #[.slice so sn sc,.string ⟨#[]⟩] 88)).heap[b]?=w1.heap[b]?:=fun b h1 h2=>by
    rw [bA _ _ _ (by simpa using h2),bS _ _ _ _ h1,bS _ _ _ _ h1]
   have hl2:aj w (((w1.setCell ⟨w.heap.size+1+1,0,none⟩ (.slice so sn sc)).setCell ⟨w.heap.size+1+1,1,none⟩ (.string ⟨#[]⟩)).alloc (.cells #[.slice so sn sc,.string ⟨#[]⟩] 88)):=(((hLV.trans hl1).set (by omega) _ _).set (by omega) _ _).alloc _;refine bodyPost_ret (v:=.tuple #[.agg #[.slice so sn sc,.string ⟨#[]⟩],.int .i64 0]) (by simp [results,Tryz.results40,go_sem,s0,s1,y2]) rfl (.inl ⟨_,rfl,aQ.page HL.out hl2 hrow (by omega) fun g h1 h2=>hot g (by omega) h2⟩)
  .have hne':¬tk.toList=[]:=fun hx=>by
    have:(tk==(⟨#[]⟩:ByteArray))=true:=by rw [beq_toListBytes];simpa using hx
    exact htk ((MapKept.bytes_beq _ _).1 this)
   have hne:(tk.toList == [])=false:=by simpa using hne'
   by_cases h3:3<=L.opened.length
   .have hR:R=(L,[],⟨#[]⟩,8):=by rw [HB.out,if_neg htk,if_pos h3]
    subst hR;have h3i:(3:Int)<=(zs.length:Int):=by omega
    go_enter (Yq.nq Tryz.func40),Tryz.ntmps40;go_wp2_with fail
    go_region
    rw [<-HV.out];obtain ⟨⟨a0,a1,a2,a3,a4,a5,a6,a7⟩,-⟩:=HF.out V aj.refl;go_wp2_with (go_at_call 69;refine HP.mono ?_;clear HP;rintro e w1 (⟨so,sn,sc,rfl,hrow,hl1⟩|⟨x,y,r,rfl,hst⟩);rotate_left;exact ⟨rfl,Or.inr ⟨x,y,r,rfl,hst⟩⟩;obtain ⟨⟨q0,q1,q2,q3,q4,q5,q6,q7⟩,⟨s0,s1,z0,z1⟩,⟨m4,m5,n4,n5⟩,y2,y3,yk⟩:=HF.out w1 hl1)
    obtain ⟨hLV,-,hVs⟩:=HX.out;have hl2:aj w (((w1.setCell ⟨w.heap.size+1+1,0,none⟩ (.slice none 0 0)).setCell ⟨w.heap.size+1+1,1,none⟩ (.string ⟨#[]⟩)).alloc (.cells #[.slice so sn sc,.string tk] 88)):=(((hLV.trans hl1).set (by omega) _ _).set (by omega) _ _).alloc _;refine bodyPost_ret (v:=.tuple #[.agg #[.slice none 0 0,.string ⟨#[]⟩],.int .i64 8]) (by simp [results,Tryz.results40,go_sem,s0,s1,y2]) rfl (.inl ⟨_,rfl,aQ.same HL.out hl2⟩)
   .rcases hold with h|h|h
    .exact absurd h hsz
    .rw [<-HTK.out] at h;exact absurd h htk
    .exact absurd h h3
end
section
variable {A:Nat->Prop} {B k0:Nat} {L:Lg}
theorem zX (Qok:Qy->Prop)(hQ:∀q,Qok q->gp q/\gq q)(w:Wz)(h:di A B w k0 L)(hB:B<=w.heap.size)(root:Option Addr)(f:List UInt8->List Ver)(q:Qy)(size:Int)(hN:ai A 41 w root f)(hq:Qok q)(hsum:fV (bI f q.p.data.toList)<=1000)(hp:q.p.size<=maxLen)(hbg:0<=L.begun/\L.begun<2199023255552)(hop:L.opened.length<=3)(G:Wz->Prop)(hGg:∀w',G w'->cM w')(hG:∀w',aj w w'->G w')(hT:jK G (L.begun+1) 2)(hsz:¬(size<1\/20<size))(htk0:(iH L f q size).tok 1≠⟨#[]⟩)(h3:¬3<=L.opened.length):
    Calls Yq.prog 40 #[.pointer (some ⟨k0,4,none⟩),sV root,qV q.vs q.p q.d q.af,.int .i64 size] w fun e w'=>
      (∃sv,e=.returned (.tuple #[.agg #[sv,.string (d7 L f q size).2.2.1],.int .i64 (d7 L f q size).2.2.2])/\aQ A B k0 w (d7 L f q size).1 (d7 L f q size).2.1 sv w')\/Stop Qok e w':=by
  have c5:=h.begun;obtain ⟨v4,c4,zs,z1,z2,z3,z4⟩:=h.opened;obtain ⟨va4,vc4,rfl,-⟩:=ay z2;have hlz:L.opened.length=zs.length:=by rw [z1];simp
  have hlt:=h.lt;have HL:Hid (di A B w k0 L):=h;obtain ⟨vs,p,d,af⟩:=q;unfold sV qV;have h1:¬size<1:=by omega
  have h2:¬20<size:=by omega
  have hbl:=rR;have hbp:=eH;have hwb:wrap64 (L.begun+1)=L.begun+1:=by unfold wrap64;omega
  have hk1:k0<w.heap.size+1:=by omega
  have hk2:k0<w.heap.size+1+1:=by omega
  have hk3:k0<w.heap.size+1+1+1:=by omega
  obtain ⟨V,hV⟩:∃V,V=((((w.alloc (.cells #[.pointer root] 56)).alloc (.cells #[.bool vs,.string p,.string d,.string af] 93)).alloc (.cells #[.slice none 0 0,.string ⟨#[]⟩] 88)).alloc (.cells #[.int .i64 (L.begun+1),.pointer root,.bool vs,.string p,.string d,.string af,.int .i64 size,.int .i64 10] 125)).drew:=⟨_,rfl⟩;have hLV:aj w V:=by rw [hV];exact ((((aj.refl.alloc _).alloc _).alloc _).alloc _).drew
  have hVs:V.heap.size=w.heap.size+4:=by rw [hV];simp
  have hpre:E5 Qok ((iH L f ⟨vs,p,d,af⟩ size).lst root) f V:=⟨.of (ai.keep (A':=fun _=>True) (fun b _ hlt=>⟨trivial,hLV.block b hlt⟩) 41 root f hN),hq,hsum,hp,hGg _ (hG _ hLV)⟩;have HP0:=ud Qok hQ ((iH L f ⟨vs,p,d,af⟩ size).lst root) 1 f V hpre G (fun w' hl=>hG w' (hLV.trans hl)) (fun _=>hT);obtain ⟨tk,htk⟩:∃tk,tk=(iH L f ⟨vs,p,d,af⟩ size).tok 1:=⟨_,rfl⟩;obtain ⟨pg,hpg⟩:∃pg,pg=(iH L f ⟨vs,p,d,af⟩ size).page 1:=⟨_,rfl⟩;have HP:Calls Yq.prog 69 #[.agg #[.int .i64 (L.begun+1),.pointer root,.bool vs,.string p,.string d,.string af,.int .i64 size,.int .i64 10],.int .i64 1] V fun e w'=>(∃so sn sc,e=.returned (.agg #[.slice so sn sc,.string tk])/\w'.ownsRow V.heap.size 41 3 (.slice so sn sc) pg.length (ax pg)/\aj V w')\/Stop Qok e w':=by
    refine HP0.mono ?_;rintro e w' (⟨sv,rfl,h3,h4⟩|h)
    . left
      rw [htk,hpg];rw [gr (l:=(iH L f ⟨vs,p,d,af⟩ size).lst root) (l':=(iH L f ⟨vs,p,d,af⟩ size).lst none) rfl] at h3;obtain ⟨so,sn,sc,rfl⟩:∃so sn sc,sv=.slice so sn sc:=by
        rcases h3.2 with ⟨rfl,-⟩|⟨g,cap,cur,rfl,-⟩
        . exact ⟨_,_,_,rfl⟩
        . exact ⟨_,_,_,rfl⟩
      exact ⟨so,sn,sc,rfl,h3,h4⟩
    . exact .inr h
  clear HP0;have HF:Hid (∀w1,aj V w1->((w1.cell? ⟨w.heap.size+1+1+1,0,none⟩=some (.int .i64 (L.begun+1))/\w1.cell? ⟨w.heap.size+1+1+1,1,none⟩=some (.pointer root)/\w1.cell? ⟨w.heap.size+1+1+1,2,none⟩=some (.bool vs)/\w1.cell? ⟨w.heap.size+1+1+1,3,none⟩=some (.string p)/\w1.cell? ⟨w.heap.size+1+1+1,4,none⟩=some (.string d)/\w1.cell? ⟨w.heap.size+1+1+1,5,none⟩=some (.string af)/\w1.cell? ⟨w.heap.size+1+1+1,6,none⟩=some (.int .i64 size)/\w1.cell? ⟨w.heap.size+1+1+1,7,none⟩=some (.int .i64 10)) /\
      (w1.cell? ⟨w.heap.size+1+1,0,none⟩=some (.slice none 0 0)/\w1.cell? ⟨w.heap.size+1+1,1,none⟩=some (.string ⟨#[]⟩)/\w1.frozen? ⟨w.heap.size+1+1,0,none⟩=false/\w1.frozen? ⟨w.heap.size+1+1,1,none⟩=false) /\
      (w1.cell? ⟨k0,4,none⟩=some (.slice va4 zs.length vc4)/\w1.cell? ⟨k0,5,none⟩=some (.int .i64 L.begun)/\w1.frozen? ⟨k0,4,none⟩=false/\w1.frozen? ⟨k0,5,none⟩=false)/\(w.heap.size+1+1<w1.heap.size/\w.heap.size+1+1+1<w1.heap.size/\k0<w1.heap.size))):=fun w1 hl=>by
    have r3:V.heap[w.heap.size+3]?=some (.cells #[.int .i64 (L.begun+1),.pointer root,.bool vs,.string p,.string d,.string af,.int .i64 size,.int .i64 10] 125):=by
      rw [hV];simp only [World.drew,World.alloc,gP,Array.size_push]
      repeat rw [if_neg (by omega)]
      simp
    have r2:V.heap[w.heap.size+2]?=some (.cells #[.slice none 0 0,.string ⟨#[]⟩] 88):=by
      rw [hV];simp only [World.drew,World.alloc,gP,Array.size_push]
      repeat rw [if_neg (by omega)]
      simp
    have e3:=(hl.block _ (by omega)).trans r3;have e2:=(hl.block _ (by omega)).trans r2;have hfz:∀j,w1.frozen? ⟨k0,j,none⟩=false:=fun j=>(fB (a:=⟨k0,j,none⟩) ((hLV.trans hl).block k0 hlt)).trans (HL.out.frozen j)
    have:=hl.size;refine ⟨⟨?_,?_,?_,?_,?_,?_,?_,?_⟩,⟨?_,?_,?_,?_⟩,⟨(hLV.trans hl).cell c4,(hLV.trans hl).cell c5,hfz 4,hfz 5⟩,by omega,by omega,by omega⟩;all_goals simp [World.cell?,World.frozen?,e3,e2]
  have HX:Hid (aj w V/\ai A 41 w root f/\V.heap.size=w.heap.size+4):=⟨hLV,hN,hVs⟩;have HZ:Hid (L.opened=zs.map (·.1)/\w.ownsRow B 125 8 (.slice va4 zs.length vc4) zs.length (aV zs)/\(∀g,(Value.slice va4 zs.length vc4).ownBlock=some g->¬A g)/\∀z∈zs,ai A 41 w z.2 z.1.f):=⟨z1,z2,z3,z4⟩;have HB:Hid (d7 L f ⟨vs,p,d,af⟩ size=(if tk=⟨#[]⟩ then (L,pg,⟨#[]⟩,0) else if 3<=L.opened.length then (L,[],⟨#[]⟩,8) else (⟨L.opened++[iH L f ⟨vs,p,d,af⟩ size],L.begun+1,ln tk (L.begun+1,2) L.told,L.tm⟩,pg,tk,0))):=by
    show d7 L f ⟨vs,p,d,af⟩ size=_;rw [d7,if_neg hsz,<-htk,<-hpg]
  generalize d7 L f ⟨vs,p,d,af⟩ size=R at *;have HV:Hid (V=((((w.alloc (.cells #[.pointer root] 56)).alloc (.cells #[.bool vs,.string p,.string d,.string af] 93)).alloc (.cells #[.slice none 0 0,.string ⟨#[]⟩] 88)).alloc (.cells #[.int .i64 (L.begun+1),.pointer root,.bool vs,.string p,.string d,.string af,.int .i64 size,.int .i64 10] 125)).drew):=hV;rw [<-htk] at htk0;replace htk:=htk0;clear hV hLV hVs hpre hpg hN z1 z2 z3 z4 hG hGg hT hq hsum hp h hQ;have hne':¬tk.toList=[]:=fun hx=>by
    have:(tk==(⟨#[]⟩:ByteArray))=true:=by rw [beq_toListBytes];simpa using hx
    exact htk ((MapKept.bytes_beq _ _).1 this)
  have hne:(tk.toList == [])=false:=by simpa using hne'
  have hR:R=(⟨L.opened++[iH L f ⟨vs,p,d,af⟩ size],L.begun+1,ln tk (L.begun+1,2) L.told,L.tm⟩,pg,tk,0):=by rw [HB.out,if_neg htk,if_neg h3]
  subst hR;have h3i:¬(3:Int)<=(zs.length:Int):=by omega
  obtain ⟨i0,hi0,hz0,hz1,hz2⟩:=info_parts Yq.infoLst;have hbq:=nw;obtain ⟨cL,hcL⟩:∃cL:Array Wq,cL=#[.int .i64 (L.begun+1),.pointer root,.bool vs,.string p,.string d,.string af,.int .i64 size,.int .i64 10]:=⟨_,rfl⟩;have HOW:Hid (∀w1,aj V w1->∀o o':Obj,((w1.alloc o).alloc o').drew.ownsRow B 125 8 (.slice va4 zs.length vc4) zs.length (aV zs)/\B<=((w1.alloc o).alloc o').drew.heap.size):=fun w1 hl o o'=>by
    have h5:aj w ((w1.alloc o).alloc o').drew:=(((HX.out.1.trans hl).alloc o).alloc o').drew;exact ⟨bc HZ.out.2.1 fun g _ hg=>h5.block g hg,lT hB h5.size⟩
  have HNW:Hid (∀ (w1:Wz) (o:Obj),∀j u,[Value.int .i64 (L.begun+1),.pointer root,.bool vs,.string p,.string d,.string af,.int .i64 size,.int .i64 10][j]?=some u->((w1.alloc o).alloc (.cells #[.int .i64 (L.begun+1),.pointer root,.bool vs,.string p,.string d,.string af,.int .i64 size,.int .i64 10] 125)).drew.cell? ((⟨w1.heap.size+1,0,none⟩:Addr).add j)=some u):=fun w1 o j u hj=>by
    have:=FB (w1.alloc o) _ 125 j u hj
    rwa [World.size_alloc] at this
  have HF3:Hid (∀w1,aj V w1->∀so sn sc w3,((w1.alloc (.cells #[.slice so sn sc,.string tk] 88)).alloc (.cells #[.int .i64 (L.begun+1),.pointer root,.bool vs,.string p,.string d,.string af,.int .i64 size,.int .i64 10] 125)).drew.grownBy w3 (Value.slice va4 zs.length vc4).ownBlock ->
      ((w3.cell? ⟨k0,4,none⟩=some (.slice va4 zs.length vc4)/\w3.cell? ⟨k0,5,none⟩=some (.int .i64 L.begun)/\w3.frozen? ⟨k0,4,none⟩=false/\w3.frozen? ⟨k0,5,none⟩=false) /\
       (w3.cell? ⟨w1.heap.size,0,none⟩=some (.slice so sn sc)/\w3.cell? ⟨w1.heap.size,1,none⟩=some (.string tk)/\w3.cell? ⟨w.heap.size+1+1+1,0,none⟩=some (.int .i64 (L.begun+1))) /\
       (w3.cell? ⟨w.heap.size+1+1,0,none⟩=some (.slice none 0 0)/\w3.cell? ⟨w.heap.size+1+1,1,none⟩=some (.string ⟨#[]⟩)/\w3.frozen? ⟨w.heap.size+1+1,0,none⟩=false/\w3.frozen? ⟨w.heap.size+1+1,1,none⟩=false) /\
       w.heap.size+1+1<w3.heap.size/\w.heap.size+1+1+1<w3.heap.size/\w1.heap.size<w3.heap.size/\k0<w3.heap.size)):=fun w1 hl1 so sn sc w3 hg3=>by
    obtain ⟨⟨q0,q1,q2,q3,q4,q5,q6,q7⟩,⟨s0,s1,z0,z1⟩,⟨m4,m5,n4,n5⟩,y2,y3,yk⟩:=HF.out w1 hl1;have hLa:aj w1 ((w1.alloc (.cells #[.slice so sn sc,.string tk] 88)).alloc (.cells #[.int .i64 (L.begun+1),.pointer root,.bool vs,.string p,.string d,.string af,.int .i64 size,.int .i64 10] 125)).drew:=((aj.refl.alloc _).alloc _).drew;have hsz:((w1.alloc (.cells #[.slice so sn sc,.string tk] 88)).alloc (.cells #[.int .i64 (L.begun+1),.pointer root,.bool vs,.string p,.string d,.string af,.int .i64 size,.int .i64 10] 125)).drew.heap.size=w1.heap.size+2:=by simp
    have hvb:∀b,w.heap.size<=b->some b≠(Value.slice va4 zs.length vc4).ownBlock:=fun b hb e=>by have:=(HZ.out.2.1.lt b e.symm).2;omega
    have hvk:some k0≠(Value.slice va4 zs.length vc4).ownBlock:=fun e=>by have:=(HZ.out.2.1.lt k0 e.symm).1;have:=HL.out.low;omega
    have bk:w3.heap[k0]?=w1.heap[k0]?:=(hg3.block k0 (by omega) hvk).trans (hLa.block k0 yk);have b2:w3.heap[w.heap.size+1+1]?=w1.heap[w.heap.size+1+1]?:=(hg3.block _ (by omega) (hvb _ (by omega))).trans (hLa.block _ y2);have b3:w3.heap[w.heap.size+1+1+1]?=w1.heap[w.heap.size+1+1+1]?:=(hg3.block _ (by omega) (hvb _ (by omega))).trans (hLa.block _ y3);have b1:w3.heap[w1.heap.size]?=some (.cells #[.slice so sn sc,.string tk] 88):=by
      rw [hg3.block _ (by omega) (hvb _ (by omega))];show ((w1.alloc (.cells #[.slice so sn sc,.string tk] 88)).alloc _).heap[w1.heap.size]?=_;rw [bA _ _ _ (by simp)];exact aN _ _
    have:=hg3.size;have hce:∀ {b:Nat},w3.heap[b]?=w1.heap[b]?->∀j,w3.cell? ⟨b,j,none⟩=w1.cell? ⟨b,j,none⟩:=fun h j=>cB (a:=⟨_,j,none⟩) h
    have hfe:∀ {b:Nat},w3.heap[b]?=w1.heap[b]?->∀j,w3.frozen? ⟨b,j,none⟩=w1.frozen? ⟨b,j,none⟩:=fun h j=>fB (a:=⟨_,j,none⟩) h
    refine ⟨⟨(hce bk 4).trans m4,(hce bk 5).trans m5,(hfe bk 4).trans n4,(hfe bk 5).trans n5⟩,⟨by simp [World.cell?,b1],by simp [World.cell?,b1],(hce b3 0).trans q0⟩,⟨(hce b2 0).trans s0,(hce b2 1).trans s1,(hfe b2 0).trans z0,(hfe b2 1).trans z1⟩,by omega,by omega,by omega,by omega⟩
  have HKP:Hid (∀w1,aj V w1->∀so sn sc,w1.ownsRow V.heap.size 41 3 (.slice so sn sc) pg.length (ax pg)->∀w3 v',w3.ownsRow B 125 8 v' (zs.length+1) (aV zs++[.int .i64 (L.begun+1),.pointer root,.bool vs,.string p,.string d,.string af,.int .i64 size,.int .i64 10])->((w1.alloc (.cells #[.slice so sn sc,.string tk] 88)).alloc (.cells #[.int .i64 (L.begun+1),.pointer root,.bool vs,.string p,.string d,.string af,.int .i64 size,.int .i64 10] 125)).drew.grownBy w3 (Value.slice va4 zs.length vc4).ownBlock ->
      (∀g,v'.ownBlock=some g->(Value.slice va4 zs.length vc4).ownBlock=some g\/((w1.alloc (.cells #[.slice so sn sc,.string tk] 88)).alloc (.cells #[.int .i64 (L.begun+1),.pointer root,.bool vs,.string p,.string d,.string af,.int .i64 size,.int .i64 10] 125)).drew.heap.size<=g)->w1.cell? ⟨w.heap.size+1+1,0,none⟩=some (.slice none 0 0) ->
      Calls Yq.prog 70 #[.pointer (some ⟨k0,4,none⟩),.string tk,.agg #[.int .i64 (L.begun+1),.int .i64 2]] ((w3.setCell ⟨k0,4,none⟩ v').setCell ⟨k0,5,none⟩ (.int .i64 (L.begun+1))) fun e w6=>e=.returned (.tuple #[])/\dq k0 ((w3.setCell ⟨k0,4,none⟩ v').setCell ⟨k0,5,none⟩ (.int .i64 (L.begun+1))) w6 /\
        ∀y0 y1,aQ A B k0 w ⟨L.opened++[iH L f ⟨vs,p,d,af⟩ size],L.begun+1,ln tk (L.begun+1,2) L.told,L.tm⟩ pg (.slice so sn sc) ((w6.setCell ⟨w.heap.size+1+1,0,none⟩ y0).setCell ⟨w.heap.size+1+1,1,none⟩ y1)):=
    fun w1 hl1 so sn sc hrow w3 v' ho3 hg3 hvb hbox=>Ed HL.out hB HX.out.1 HX.out.2.2 hl1 hrow c4 HZ.out.1 HZ.out.2.1 HZ.out.2.2.1 HZ.out.2.2.2 (x:=iH L f ⟨vs,p,d,af⟩ size) HX.out.2.1 _ _ ho3 hg3 hvb (L.begun+1) tk (L.begun+1,2) hbox
  go_enter (Yq.nq Tryz.func40),Tryz.ntmps40;go_wp2_with fail
  go_region
  rw [<-HV.out];obtain ⟨⟨a0,a1,a2,a3,a4,a5,a6,a7⟩,-⟩:=HF.out V aj.refl;go_wp2_with (go_at_call 69;refine HP.mono ?_;clear HP;rintro e w1 (⟨so,sn,sc,rfl,hrow,hl1⟩|⟨x,y,r,rfl,hst⟩);rotate_left;exact ⟨rfl,Or.inr ⟨x,y,r,rfl,hst⟩⟩;obtain ⟨⟨q0,q1,q2,q3,q4,q5,q6,q7⟩,⟨s0,s1,z0,z1⟩,⟨m4,m5,n4,n5⟩,y2,y3,yk⟩:=HF.out w1 hl1)
  have yk1:k0<w1.heap.size+1:=by omega
  have y31:w.heap.size+1+1+1<w1.heap.size+1:=by omega
  go_region_law (refine cH rfl (.tmp 47) (.tmp 49) 60 rfl B 125 i0 _ 8 88 (Yq.u Tryz.underlying60) hi0 hz0 hz1 hz2 rfl (by decide) (.slice va4 zs.length vc4) zs.length (aV zs) (by simp [Act.eval]) (HOW.out w1 hl1 _ _).1 ⟨w1.heap.size+1,0,none⟩ 1 1 [.int .i64 (L.begun+1),.pointer root,.bool vs,.string p,.string d,.string af,.int .i64 size,.int .i64 10] (by simp [Act.eval]) rfl (HNW.out _ _) (one8 ((iH L f ⟨vs,p,d,af⟩ size).lst root)) (by simp only [maxLen];omega) (by omega) (HOW.out w1 hl1 _ _).2 ?_;intro v' w3 ho3 hg3 hvb;obtain ⟨va',vc',rfl,-⟩:=ay ho3;obtain ⟨⟨b4,b5,g4,g5⟩,⟨b0,b1,b2⟩,⟨t0,t1,u0,u1⟩,x2,x3,x4,xk⟩:=HF3.out w1 hl1 so sn sc w3 hg3;have HW3:Hid (_/\_/\_):=And.intro ho3 (And.intro hg3 hvb);clear ho3 hg3 hvb)
  all_goals
    have HK:=(HKP.out w1 hl1 so sn sc hrow w3 _ HW3.out.1 HW3.out.2.1 HW3.out.2.2 s0);clear HKP;go_wp2_with (go_at_call 70;refine HK.mono ?_;clear HK;rintro e w6 ⟨rfl,hk6,hfin⟩;have p0:=hk6.cell (eT b0 (by omega)) (by omega);have p1:=hk6.cell (eT b1 (by omega)) (by omega);have r0:=hk6.cell (eT t0 (by omega)) (by omega);have r1:=hk6.cell (eT t1 (by omega)) (by omega);have e0:w6.frozen? ⟨w.heap.size+1+1,0,none⟩=false:=(by rw [hk6.frozen (eT t0 (by omega)) (by omega),World.frozen?_setCell,World.frozen?_setCell];exact u0);have e1:w6.frozen? ⟨w.heap.size+1+1,1,none⟩=false:=(by rw [hk6.frozen (eT t1 (by omega)) (by omega),World.frozen?_setCell,World.frozen?_setCell];exact u1))
    exact bodyPost_ret (v:=.tuple #[.agg #[.slice so sn sc,.string tk],.int .i64 0]) (by simp [results,Tryz.results40,go_sem,r0,r1]) rfl (.inl ⟨_,rfl,hfin _ _⟩)
end
theorem vB {A:Nat->Prop}{B k0:Nat}{L:Lg}(Qok:Qy->Prop)(hQ:∀q,Qok q->gp q/\gq q)(w:Wz)(h:di A B w k0 L)(hB:B<=w.heap.size)(root:Option Addr)(f:List UInt8->List Ver)(q:Qy)(size:Int)(hN:ai A 41 w root f)(hq:Qok q)(hsum:fV (bI f q.p.data.toList)<=1000)(hp:q.p.size<=maxLen)(hbg:0<=L.begun/\L.begun<2199023255552)(hop:L.opened.length<=3)(G:Wz->Prop)(hGg:∀w',G w'->cM w')(hG:∀w',aj w w'->G w')(hT:jK G (L.begun+1) 2):
  Calls Yq.prog 40 #[.pointer (some ⟨k0,4,none⟩),sV root,qV q.vs q.p q.d q.af,.int .i64 size] w fun e w'=>
   (∃sv,e=.returned (.tuple #[.agg #[sv,.string (d7 L f q size).2.2.1],.int .i64 (d7 L f q size).2.2.2])/\aQ A B k0 w (d7 L f q size).1 (d7 L f q size).2.1 sv w')\/Stop Qok e w':=by
 by_cases h1:size<1\/20<size
 .exact nz Qok hQ w h hB root f q size hN hq hsum hp hbg hop G hGg hG hT (.inl h1)
 .by_cases h2:(iH L f q size).tok 1=⟨#[]⟩
  .exact nz Qok hQ w h hB root f q size hN hq hsum hp hbg hop G hGg hG hT (.inr (.inl h2))
  .by_cases h3:3<=L.opened.length
   .exact nz Qok hQ w h hB root f q size hN hq hsum hp hbg hop G hGg hG hT (.inr (.inr h3))
   .exact zX Qok hQ w h hB root f q size hN hq hsum hp hbg hop G hGg hG hT h1 h2 h3
structure jl where
 code:Int
 ver:Int
 body:ByteArray
 items:List ItD
 tok:ByteArray
def il (a:jl)(sv:Wq):Wq:=.agg #[.int .i64 a.code,.int .i64 a.ver,.string a.body,sv,.string a.tok]
def bh (A:Nat->Prop)(B k0:Nat)(w:Wz)(st':St)(L':Lg)(a:jl)(e:Ending)(w':Wz):Prop:=
 ∃sv,e=.returned (il a sv)/\∃A':Nat->Prop,(∀b,A b->A' b)/\(∀b,A' b->A b\/w.heap.size<=b)/\aW A' B w' k0 st' L'/\fy A B k0 w w'/\bH A' w' sv a.items.length (ax a.items)
section
variable {A A':Nat->Prop} {B k0:Nat} {w w' w'':Wz} {st:St} {L L':Lg}
theorem fy.left (hk:k0<w.heap.size)(h:aj w w'):fy A B k0 w w':=(aI.left hk h).weak
theorem aW.left (h:aW A B w k0 st L)(hl:aj w w'):aW A B w' k0 st L:=h.step (aI.left h.ls.lt hl) (fun _ h=>h) (h.ls.left hl) rfl
theorem aW.other {b j:Nat}{x:Wq}(h:aW A B w k0 st L)(hb:b≠k0)(hA:¬A b)(hcl:cn w b)(hv:¬jf k0 w b)(hB:B<=b):aW A B (w.setCell ⟨b,j,none⟩ x) k0 st L:=
 h.step (aI.other hb hA hB) (fun _ h=>h) (h.ls.other hb hA hcl (fun v _g e1 e2 e3=>hv ⟨v,e1,e3▸e2⟩)) rfl
theorem nA {W0 w1:Wz}{r:Nat}{sv:Wq}{its:List ItD}(hW:aj w W0)(hk:k0<w.heap.size)(hBw:B<=w.heap.size)(hr:w.heap.size<=r)(hrl:r<W0.heap.size)(hrc:cn W0 r)(_hA1:∀b,A b->A' b)(hA2:∀b,A' b->A b\/W0.heap.size<=b)(hAw:∀b,A b->b<w.heap.size)(hd:aW A' B w1 k0 st L')(hdw:fy A B k0 W0 w1)(hf:FrC k0 W0 w1)(ho:∀g,jf k0 W0 g->g<w.heap.size)(hrow:bH A' w1 sv its.length (ax its))(x0 x1 x2 x3 x4:Wq):
  (∀b,A' b->A b\/w.heap.size<=b)/\aW A' B (put5 w1 r x0 x1 x2 x3 x4) k0 st L'/\fy A B k0 w (put5 w1 r x0 x1 x2 x3 x4)/\bH A' (put5 w1 r x0 x1 x2 x3 x4) sv its.length (ax its):=by
 have hlow:=hd.ls.low;have hrk:r≠k0:=by omega
 have hnA:¬A' r:=fun h=>by
  rcases hA2 r h with h|h
  .have:=hAw r h;omega
  .omega
 have hno:¬jf k0 W0 r:=fun h=>by have:=ho r h;omega
 have e1:w1.heap[r]?=W0.heap[r]?:=hf.keep r hrc hrk hno;have hc1:cn w1 r:=hrc.same e1;have hno1:¬jf k0 w1 r:=fun h=>by
  rcases hf.own r h with h|h
  .exact hno h
  .omega
 have hopen:∀ (W:Wz) (j:Nat) (x:Wq),¬jf k0 W r->¬jf k0 (W.setCell ⟨r,j,none⟩ x) r:=fun W j x h=>by
  rintro ⟨v,h1,h2⟩;exact h ⟨v,(cB (a:=⟨k0,4,none⟩) (bS _ _ _ _ (fun e=>hrk e.symm))).symm.trans h1,h2⟩
 have hset:∀b,b≠r->(put5 w1 r x0 x1 x2 x3 x4).heap[b]?=w1.heap[b]?:=fun b hb=>by
  unfold put5;rw [bS _ _ _ _ hb,bS _ _ _ _ hb,bS _ _ _ _ hb,bS _ _ _ _ hb,bS _ _ _ _ hb]
 refine ⟨fun b hb=>(hA2 b hb).imp id fun h=>by have:=hW.size;omega,?_,(fy.left hk hW).trans (hdw.trans ?_),bH.keep hrow fun b hb _=>⟨hb,hset b (fun e=>hnA (e▸hb))⟩⟩
 .unfold put5;exact ((((hd.other hrk hnA hc1 hno1 (by omega)).other hrk hnA hc1.set (hopen _ _ _ hno1) (by omega)).other hrk hnA hc1.set.set (hopen _ _ _ (hopen _ _ _ hno1)) (by omega)).other hrk hnA hc1.set.set.set (hopen _ _ _ (hopen _ _ _ (hopen _ _ _ hno1))) (by omega)).other hrk hnA hc1.set.set.set.set (hopen _ _ _ (hopen _ _ _ (hopen _ _ _ (hopen _ _ _ hno1)))) (by omega)
 .have hkk:=hset k0 (fun e=>hrk e.symm);exact ⟨rfl,by simp [put5],fun b h1 _ _=>hset b (by omega),fun b hb _=>hset b (fun e=>by have:=hAw b hb;omega),fun j _=>cB (a:=⟨k0,j,none⟩) hkk,fun j=>fB (a:=⟨k0,j,none⟩) hkk⟩
end
end
