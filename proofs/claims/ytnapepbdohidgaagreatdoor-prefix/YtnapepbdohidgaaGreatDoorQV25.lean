/- A part. -/
import Derived.Test.YtnapepbdohidgaaGreatDoorQV21
set_option maxHeartbeats 4000000
set_option maxRecDepth 100000
open Go renaming World->Wz
namespace Go.Proofs.Qw
section
open Go
open Go.Conc Go.ConcX Go.ConcX.Gen Go.RowKit
theorem CQ (k0 g0 c:Nat)(ks:List Int)(bs:List ByteArray)(o:OpD)(w:Wz)(hn:bs.length<=2199023255552)(c8:w.cell? ⟨k0,8,none⟩=some (.slice (some ⟨g0,0,none⟩) bs.length c))(hb:Db w k0 g0 bs.length ks bs):
  Calls Yq.prog 50 #[.pointer (some ⟨k0,0,none⟩),cj o] w fun e w'=>e=.returned (.string (dx ks bs o.src o.body))/\Below w.heap.size w w':=by
 obtain ⟨kind,key,body,delim,past,n,src⟩:=o;obtain ⟨sb,so,sn,sc,c7,hsn,hks⟩:=hb.script;have hbd:=hb.bodies;have hkl:=hb.kl;have hlt:k0<w.heap.size:=bC w _ c8;obtain ⟨W,hW⟩:∃W,W=w.alloc (.cells #[.int .i64 kind,.string key,.string body,.string delim,.string past,.int .i64 n,.int .i64 src] 31):=⟨_,rfl⟩;have hbW:Below w.heap.size w W:=by rw [hW];exact (bR _ _).alloc (lR _) _
 have hbD:Below w.heap.size w {W with drawn:=W.drawn+1}:=⟨hbW.os,hbW.tape,hbW.output,hbW.size,hbW.block⟩;have d8:=aj hbW c8;have d7:=aj hbW c7;have HA:=vE k0 (some ⟨g0,0,none⟩) bs.length c src {W with drawn:=W.drawn+1} hn (aj hbD c8);have hrow:W.heap[w.heap.size]?=some (.cells #[.int .i64 kind,.string key,.string body,.string delim,.string past,.int .i64 n,.int .i64 src] 31):=by rw [hW];exact aN _ _
 have d6:W.cell? ⟨w.heap.size,6,none⟩=some (.int .i64 src):=by simp [World.cell?,hrow]
 have HB:Hid (Below w.heap.size w W/\W.cell? ⟨k0,7,none⟩=some (.slice (some ⟨sb,so,none⟩) sn sc)/\W.cell? ⟨w.heap.size,6,none⟩=some (.int .i64 src)):=⟨hbW,d7,d6⟩;have HW:Hid (W=w.alloc (.cells #[.int .i64 kind,.string key,.string body,.string delim,.string past,.int .i64 n,.int .i64 src] 31)):=hW;have hr2:({W with drawn:=W.drawn+1}:Wz).cell? ⟨w.heap.size,2,none⟩=some (.string body):=by
  show W.cell? _=_;simp [World.cell?,hrow]
 have hr6:({W with drawn:=W.drawn+1}:Wz).cell? ⟨w.heap.size,6,none⟩=some (.int .i64 src):=d6;have hr8:({W with drawn:=W.drawn+1}:Wz).cell? ⟨k0,8,none⟩=some (.slice (some ⟨g0,0,none⟩) bs.length c):=d8;obtain ⟨D,hD⟩:∃D:Wz,D={W with drawn:=W.drawn+1}:=⟨_,rfl⟩;have HDD:Hid (D={W with drawn:=W.drawn+1}/\Below w.heap.size w D):=⟨hD,by rw [hD];exact hbD⟩;rw [<-hD] at hr2 hr6 hr8 HA;unfold cj;simp only;by_cases ha:0<=src/\src<bs.length
 .have hd:decide (0<=src/\src<bs.length)=true:=by simp [ha]
  rw [hd] at HA;obtain ⟨s,rfl⟩:∃s:Nat,src=s:=⟨src.toNat,by omega⟩;have hs:s<bs.length:=by omega
  have hs2:s<ks.length:=by omega
  have ck:=aj hbW (hks s hs2);have cbD:D.cell? ⟨g0,s * 5+2,none⟩=some (.string bs[s]):=by rw [hD];exact aj hbW (hbd s hs)
  have e0:ks[(s:Int).toNat]?.getD 0=ks[s]:=by simp [hs2]
  have e1:bs[(s:Int).toNat]?.getD ⟨#[]⟩=bs[s]:=by simp [hs]
  have hR:dx ks bs s body=if ks[s]=11 then bs[s] else body:=by rw [dx,if_pos ha,e0,e1]
  rw [hR];have hsS:s<sn:=by omega
  generalize ks[s]=t at *;generalize bs[s]=bb at *;clear hW hbW hbD d8 d7 d6 hrow hks hbd c8 c7 hb hD;by_cases htk:t=11
  .have hbv:(t==11)=true:=by simp [htk]
   rw [if_pos htk];go_enter (Yq.nq Tryz.func50),Tryz.ntmps50
   go_upto_region 1 with fail
   rename_i K1 hK1 K2 hK2;rw [<-HW.out];refine wpIn_wide.1 (show Code.wpIn (wf none) 0 _ _ _ _ _ from vG (id:=1) (m:=0) (s:=s) (so:=so) (j:=7) (i1:=so+s * 7) (i2:=so+s * 7) (lv:=.int .i64 t) (b:=t==11) (ops:=um) rfl rfl rfl HB.out.2.2 (.inr ⟨rfl,rfl,rfl,rfl,t,rfl,rfl⟩) HB.out.2.1 rfl hsS ck (by rw [<-HDD.out.1];exact HA) (fun a h1 h2 h3 h4=>?_));rw [<-HDD.out.1];have h2:a.defers=[]:=h2;have ha:=ik a 32 h1;rw [hbv] at h4;have f0:a.eval (.tmp 0)=.pointer (some ⟨k0,0,none⟩):=h3 0 (by decide);have f3:a.eval (.tmp 3)=.pointer (some ⟨w.heap.size,0,none⟩):=h3 3 (by decide);refine hK2 _ _ ?_;rw [ha,h2];clear ha h1 h2 h3;generalize a.eval=ρ at f0 f3 h4 ⊢;simp only [List.range,List.range.loop,List.map_cons,List.map_nil,f0,f3,h4];clear f0 f3 h4 hK2 K2 HA ck;have h1i:¬((s:Int)<0):=by omega
   go_wp2_with fail
   go_region
   all_goals
    go_wp2;go_ret;exact ⟨rfl,HDD.out.2.drew⟩
  .have hbv:(t==11)=false:=by simp [htk]
   rw [if_neg htk];go_enter (Yq.nq Tryz.func50),Tryz.ntmps50
   go_upto_region 1 with fail
   rename_i K1 hK1 K2 hK2;rw [<-HW.out];refine wpIn_wide.1 (show Code.wpIn (wf none) 0 _ _ _ _ _ from vG (id:=1) (m:=0) (s:=s) (so:=so) (j:=7) (i1:=so+s * 7) (i2:=so+s * 7) (lv:=.int .i64 t) (b:=t==11) (ops:=um) rfl rfl rfl HB.out.2.2 (.inr ⟨rfl,rfl,rfl,rfl,t,rfl,rfl⟩) HB.out.2.1 rfl hsS ck (by rw [<-HDD.out.1];exact HA) (fun a h1 h2 h3 h4=>?_));rw [<-HDD.out.1];have h2:a.defers=[]:=h2;have ha:=ik a 32 h1;rw [hbv] at h4;have f0:a.eval (.tmp 0)=.pointer (some ⟨k0,0,none⟩):=h3 0 (by decide);have f3:a.eval (.tmp 3)=.pointer (some ⟨w.heap.size,0,none⟩):=h3 3 (by decide);refine hK2 _ _ ?_;rw [ha,h2];clear ha h1 h2 h3;generalize a.eval=ρ at f0 f3 h4 ⊢;simp only [List.range,List.range.loop,List.map_cons,List.map_nil,f0,f3,h4];clear f0 f3 h4 hK2 K2 HA ck;go_wp2_with fail
   go_ret;exact ⟨rfl,HDD.out.2⟩
 .have hd:decide (0<=src/\src<bs.length)=false:=by simpa using ha
  rw [hd] at HA;have hR:dx ks bs src body=body:=by rw [dx,if_neg ha]
  rw [hR];clear hW hbW hbD d8 d7 d6 hrow hks hbd c8 c7 hb hD;go_enter (Yq.nq Tryz.func50),Tryz.ntmps50
  go_upto_region 1 with fail
  rename_i K1 hK1 K2 hK2;rw [<-HW.out];refine wpIn_wide.1 (show Code.wpIn (wf none) 0 _ _ _ _ _ from FB (id:=1) (m:=0) (ops:=um) rfl rfl rfl HB.out.2.2 (.inr rfl) (by rw [<-HDD.out.1];exact HA) (fun a h1 h2 h3 h4=>?_));rw [<-HDD.out.1];have h2:a.defers=[]:=h2;have ha:=ik a 32 h1;have f0:a.eval (.tmp 0)=.pointer (some ⟨k0,0,none⟩):=h3 0 (by decide);have f3:a.eval (.tmp 3)=.pointer (some ⟨w.heap.size,0,none⟩):=h3 3 (by decide);refine hK2 _ _ ?_;rw [ha,h2];clear ha h1 h2 h3;generalize a.eval=ρ at f0 f3 h4 ⊢;simp only [List.range,List.range.loop,List.map_cons,List.map_nil,f0,f3,h4];clear f0 f3 h4 hK2 K2 HA;go_wp2_with fail
  go_ret;exact ⟨rfl,HDD.out.2⟩
theorem AK (k0:Nat)(v:Value)(w:Wz)(c4:w.cell? ⟨k0,4,none⟩=some v)(f4:w.frozen? ⟨k0,4,none⟩=false):
  Calls Yq.prog 80 #[.pointer (some ⟨k0,4,none⟩)] w fun e w'=>e=.returned (.tuple #[])/\w'=w.setCell ⟨k0,4,none⟩ (.slice none 0 0):=by
 go_enter (Yq.nq Tryz.func80),Tryz.ntmps80;go_wp2;go_end0;exact ⟨rfl,rfl⟩
section
variable {A:Nat->Prop} {B k0:Nat} {w w2:Wz} {st:St} {L:Lg}
theorem AL (h:aG A B w k0 st L)(hl:ak w w2){A1:Nat->Prop}{p:Option Addr}{st':St}{tm:Int}(hN:ai A1 41 w2 p st'.f)(hA1:∀b,A1 b->w.heap.size<=b)(_hB:B<=w.heap.size):
  ∃A':Nat->Prop,(∀b,A b->A' b)/\(∀b,A' b->A b\/w.heap.size<=b)/\aG A' B (put5 w2 k0 (.pointer p) (.int .i64 st'.count) (.int .i64 st'.last) (.int .u64 tm) (.slice none 0 0)) k0 st' {L with opened:=[],tm:=tm}/\dO A B k0 w (put5 w2 k0 (.pointer p) (.int .i64 st'.count) (.int .i64 st'.last) (.int .u64 tm) (.slice none 0 0))/\FrC k0 w (put5 w2 k0 (.pointer p) (.int .i64 st'.count) (.int .i64 st'.last) (.int .u64 tm) (.slice none 0 0)):=by
 have h2:=h.left hl;obtain ⟨p0,c0,-⟩:=h2.store.tree;obtain ⟨v,c4,-⟩:=h2.ls.opened;obtain ⟨mv,c6,hm⟩:=h.ls.told;replace c6:=hl.cell c6;have c1:=h2.store.count;have c2:=h2.store.last;have c3:=h2.time;have hlt:=h.ls.lt;have hlow:=h.ls.low;obtain ⟨W,hW⟩:∃W,W=put5 w2 k0 (.pointer p) (.int .i64 st'.count) (.int .i64 st'.last) (.int .u64 tm) (.slice none 0 0):=⟨_,rfl⟩;have hne:∀b,b≠k0->W.heap[b]?=w2.heap[b]?:=fun b hb=>by
  rw [hW,put5,bS _ _ _ _ hb,bS _ _ _ _ hb,bS _ _ _ _ hb,bS _ _ _ _ hb,bS _ _ _ _ hb]
 have d0:W.cell? ⟨k0,0,none⟩=some (.pointer p):=by rw [hW];exact co (by simp) (co (by simp) (co (by simp) (co (by simp) (cs c0))))
 have d1:W.cell? ⟨k0,1,none⟩=some (.int .i64 st'.count):=by rw [hW];exact co (by simp) (co (by simp) (co (by simp) (cs (co (by simp) c1))))
 have d2:W.cell? ⟨k0,2,none⟩=some (.int .i64 st'.last):=by rw [hW];exact co (by simp) (co (by simp) (cs (co (by simp) (co (by simp) c2))))
 have d3:W.cell? ⟨k0,3,none⟩=some (.int .u64 tm):=by rw [hW];exact co (by simp) (cs (co (by simp) (co (by simp) (co (by simp) c3))))
 have d4:W.cell? ⟨k0,4,none⟩=some (.slice none 0 0):=by rw [hW];exact cs (co (by simp) (co (by simp) (co (by simp) (co (by simp) c4))))
 have dj:∀j,4<j->W.cell? ⟨k0,j,none⟩=w2.cell? ⟨k0,j,none⟩:=fun j hj=>by
  rw [hW,put5,cO _ _ _ _ (aU (by omega)),cO _ _ _ _ (aU (by omega)),cO _ _ _ _ (aU (by omega)),cO _ _ _ _ (aU (by omega)),cO _ _ _ _ (aU (by omega))]
 have hf:∀j,W.frozen? ⟨k0,j,none⟩=w2.frozen? ⟨k0,j,none⟩:=fun j=>by
  rw [hW,put5];simp only [World.frozen?_setCell]
 have hsz:W.heap.size=w2.heap.size:=by rw [hW];simp [put5]
 have hs2:=hl.size;rw [<-hW];have hfz:∀j,W.frozen? ⟨k0,j,none⟩=false:=fun j=>(hf j).trans (h2.ls.frozen j)
 refine ⟨fun b=>A b\/(A1 b/\b<w2.heap.size),fun b hb=>.inl hb,fun b hb=>hb.imp id fun h=>hA1 b h.1,⟨⟨fun b hb e=>?_,⟨p,d0,ai.keep (fun b h1 h3=>⟨.inr ⟨h1,h3⟩,hne b (fun e=>by have:=hA1 b h1;omega)⟩) 41 _ _ hN⟩,d1,d2,hfz⟩,⟨⟨_,d4,[],rfl,⟨by simp [aQ],.inl ⟨rfl,rfl⟩⟩,fun g hg=>by simp [Value.ownBlock] at hg,fun z hz=>by simp at hz⟩,(dj 5 (by omega)).trans h2.ls.begun,⟨mv,(dj 6 (by omega)).trans c6,?_⟩,hfz,fun hb=>?_,hlow,fun b hb=>?_⟩,d3⟩,⟨?_,by omega,fun b _ h3 h4=>(hne b h4).trans (hl.block b h3),fun b h3 h4=>(hne b (fun e=>h.ls.avoid (e▸h3))).trans (hl.block b h4),fun j hj=>(dj j (by omega)).trans (cB (a:=⟨k0,j,none⟩) (hl.block k0 hlt)),fun j=>(hf j).trans (fB (a:=⟨k0,j,none⟩) (hl.block k0 hlt))⟩,⟨by omega,fun b hb h3 _=>(hne b h3).trans (hl.block b hb.lt),fun b ho=>?_⟩⟩
 .subst e;rcases hb with hb|hb
  .exact h.ls.avoid hb
  .have:=hA1 _ hb.1;omega
 .rcases hm with hm|⟨m,es,clock,m1,m2,m3,m4,m5⟩
  .exact .inl hm
  .have hml:=(eS m2).1;exact .inr ⟨m,es,clock,m1,(hne m (by omega)).trans ((hl.block m hml).trans m2),m3,fun hx=>hx.elim m4 fun hx=>by have:=hA1 _ hx.1;omega,m5⟩
 .rcases hb with hb|hb
  .exact h.ls.avoid hb
  .have:=hA1 _ hb.1;omega
 .rcases hb with hb|hb
  .have:=h2.ls.inn b hb;omega
  .omega
 .rw [hW];show w2.os=w.os;exact hl.os
 .obtain ⟨x,h1,h3⟩:=ho;rw [d4] at h1;cases h1;simp [Value.ownBlock] at h3
theorem CR (h:aG A B w k0 st L)(hB:B<=w.heap.size)(saved:ByteArray)(hs:saved.size<=maxLen):
  Calls Yq.prog 49 #[.pointer (some ⟨k0,0,none⟩),.string saved] w fun e w'=>e=.returned (.int .i64 (cG st L saved).2.2.code)/\∃A':Nat->Prop,(∀b,A b->A' b)/\(∀b,A' b->A b\/w.heap.size<=b)/\aG A' B w' k0 (cG st L saved).1 (cG st L saved).2.1/\dO A B k0 w w'/\FrC k0 w w':=by
 have HD:Hid (aG A B w k0 st L/\B<=w.heap.size):=⟨h,hB⟩;have HL:=EG saved w hs;clear h hs hB;go_enter (Yq.nq Tryz.func49),Tryz.ntmps49;go_wp2_with fail
 refine HL.mono ?_;clear HL;rintro e w1 ⟨l1,⟨e0,rfl⟩|⟨st',tm,p,A1,e0,rfl,hN,hA1,hI,hT⟩⟩
 .have HR:Hid (cG st L saved=(st,L,⟨12,0,⟨#[]⟩,[],⟨#[]⟩⟩)):=by show cG st L saved=_;rw [cG,e0]
  have HL1:Hid (ak w w1):=l1;clear e0 l1;go_wp2;go_ret;rw [HR.out];have hl:=HL1.out.alloc (.cells #[.pointer none,.int .i64 0,.int .i64 0,.int .u64 0] 59);exact ⟨rfl,A,fun _ h=>h,fun _ h=>.inl h,HD.out.1.left hl,dO.left HD.out.1.ls.lt hl,FrC.left HD.out.1.ls.lt hl⟩
 .have HR:Hid (cG st L saved=(st',{L with opened:=[],tm:=tm},⟨0,0,⟨#[]⟩,[],⟨#[]⟩⟩)):=by show cG st L saved=_;rw [cG,e0]
  obtain ⟨W,hW⟩:∃W,W=w1.alloc (.cells #[.pointer p,.int .i64 st'.count,.int .i64 st'.last,.int .u64 tm] 59):=⟨_,rfl⟩;have hl:ak w W:=by rw [hW];exact l1.alloc _
  have hNW:ai A1 41 W p st'.f:=by rw [hW];exact ai.keep (fun b h1 h2=>⟨h1,bA _ _ _ h2⟩) 41 _ _ hN
  have HF:Hid (_/\ak w W):=⟨AL (tm:=tm) HD.out.1 hl hNW hA1 HD.out.2,hl⟩;have h2:=HD.out.1.left l1;obtain ⟨p0,c0,-⟩:=h2.store.tree;obtain ⟨v,c4,-⟩:=h2.ls.opened;have e0:=an c0;have e1:=an h2.store.count;have e2:=an h2.store.last;have e3:=an h2.time;have e4:=an c4;have g0:=aq c0 (h2.ls.frozen 0);have g1:=aq h2.store.count (h2.ls.frozen 1);have g2:=aq h2.store.last (h2.ls.frozen 2);have g3:=aq h2.time (h2.ls.frozen 3);have g4:=aq c4 (h2.ls.frozen 4);have HWW:Hid (W=w1.alloc (.cells #[.pointer p,.int .i64 st'.count,.int .i64 st'.last,.int .u64 tm] 59)):=hW;have HE4:Hid ((∀O,(w1.alloc O).cell? ⟨k0,4,none⟩=some v)/\∀O,(w1.alloc O).frozen? ⟨k0,4,none⟩=false):=⟨e4,g4⟩;clear hl hNW hN hA1 hI hT l1 h2 hW c0 c4 e4 g4;go_wp2_with (go_at_call 80;refine (AK k0 v _ (co (by simp) (co (by simp) (co (by simp) (co (by simp) (HE4.out.1 _))))) (fs (fs (fs (fs (HE4.out.2 _)))))).mono ?_;rintro e w3 ⟨rfl,rfl⟩)
  go_ret;rw [HR.out,<-HWW.out];obtain ⟨A',a1,a2,a3,a4,a5⟩:=HF.out.1;exact ⟨rfl,A',a1,a2,a3,a4,a5⟩
theorem uB (h:aG A B w k0 st L)(hB:B<=w.heap.size)(o:OpD)(hk:o.kind=12)(hbz:o.body.size<=maxLen)(s g0 cp:Nat)(hs:s<2199023255340)(c8:w.cell? ⟨k0,8,none⟩=some (.slice (some ⟨g0,0,none⟩) s cp))(ks:List Int)(bs:List ByteArray)(hb:Db w k0 g0 s ks bs):
  Calls Yq.prog 33 #[.pointer (some ⟨k0,0,none⟩),cj o] w (bc A B k0 w (cG st L (dx ks bs o.src o.body)).1 (cG st L (dx ks bs o.src o.body)).2.1 (cG st L (dx ks bs o.src o.body)).2.2):=by
 obtain ⟨sv,hsv⟩:∃sv,sv=dx ks bs o.src o.body:=⟨_,rfl⟩;have hsz:sv.size<=maxLen:=by
  rw [hsv,dx];split
  .split
   .rename_i h1 h2;obtain ⟨x,hx⟩:∃x,bs[o.src.toNat]?=some x:=⟨_,eL (by omega)⟩;rw [hx];exact hb.small x (List.mem_of_getElem? hx)
   .exact hbz
  .exact hbz
 have hl0:ak w (cu w o):=aJ o;have hbl:=hb.bl;subst hbl;have HS:=CQ k0 g0 cp ks bs o (cu w o) (by omega) (hl0.cell c8) (hb.left hl0);rw [<-hsv] at HS ⊢;have hlt:=h.ls.lt;have HL:Hid (∀w1,ak (cu w o) w1->Calls Yq.prog 49 #[.pointer (some ⟨k0,0,none⟩),.string sv] w1 fun e w'=>e=.returned (.int .i64 (cG st L sv).2.2.code)/\∃A':Nat->Prop,(∀b,A b->A' b)/\(∀b,A' b->A b\/(cu w o).heap.size<=b)/\aG A' B w' k0 (cG st L sv).1 (cG st L sv).2.1/\dO A B k0 (cu w o) w'/\FrC k0 (cu w o) w'):=fun w1 hl=>by
  have hs1:=hl.size;have hs0:=hl0.size;refine (CR (h.left (hl0.trans hl)) (by omega) sv hsz).mono ?_;rintro e w' ⟨rfl,A',a1,a2,a3,a4,a5⟩;exact ⟨rfl,A',a1,fun b hb=>(a2 b hb).imp id fun h=>by omega,a3,(dO.left (by omega) hl).trans a4,(FrC.left (by omega) hl).trans a5⟩
 have HB:Hid (∀w1,FrC k0 (cu w o) w1->_):=fun w1 hf=>box5 (jN o h.ls hf)
 have hca:(cG st L sv).2.2=⟨(cG st L sv).2.2.code,0,⟨#[]⟩,[],⟨#[]⟩⟩:=by
  unfold cG;split<;>rfl
 have HF:Hid (∀w1 x0 x1 x2 x3 x4 (A':Nat->Prop),(∀b,A b->A' b)->(∀b,A' b->A b\/(cu w o).heap.size<=b)->aG A' B w1 k0 (cG st L sv).1 (cG st L sv).2.1->dO A B k0 (cu w o) w1->FrC k0 (cu w o) w1->bc A B k0 w (cG st L sv).1 (cG st L sv).2.1 ⟨(cG st L sv).2.2.code,0,⟨#[]⟩,[],⟨#[]⟩⟩ (.returned (iH ⟨(cG st L sv).2.2.code,0,⟨#[]⟩,[],⟨#[]⟩⟩ (.slice none 0 0))) (put5 w1 (w.heap.size+1) x0 x1 x2 x3 x4)):=fun w1 x0 x1 x2 x3 x4 A' a1 a2 d1 d2 d3=>by
  obtain ⟨e1,e2,e3,e4⟩:=kH (A':=A') (sv:=.slice none 0 0) (its:=[]) (r:=w.heap.size+1) hl0 hlt hB (by omega) (by rw [aK];omega) ⟨_,fu o,rfl⟩ a1 a2 h.ls.inn d1 d2 d3 (eX o h.ls) ⟨none,0,rfl,fun _=>rfl,fun h=>absurd rfl h⟩ x0 x1 x2 x3 x4;exact ⟨_,rfl,A',a1,e1,e2,e3,e4⟩
 have hb1:=oL;rw [hca];clear hca hsv;generalize cG st L sv=R at HL HF ⊢;obtain ⟨st',L',ca⟩:=R;obtain ⟨cd,x1,x2,x3,x4⟩:=ca;simp only at HL HF ⊢;obtain ⟨kind,key,body,delim,past,n,src⟩:=o;simp only at hk;subst hk;unfold cu at HS HL HF HB;clear h hb hsz hl0 hB hbz c8;unfold cj at HS ⊢;go_enter (Yq.nq Tryz.func33),Tryz.ntmps33;go_wp2_with (first
  |(go_at_call 50;refine HS.mono ?_;clear HS;rintro e w1 ⟨rfl,hb⟩)
  |(go_at_call 49;refine (HL.out w1 (.below hb)).mono ?_;clear HL;rintro e w2 ⟨rfl,A',a1,a2,d1,d2,d3⟩;obtain ⟨⟨b0,b1,b2,b3,b4⟩,f0,f1,f2,f3,f4⟩:=HB.out w2 d3))
 exact bodyPost_ret (v:=iH ⟨cd,0,⟨#[]⟩,[],⟨#[]⟩⟩ (.slice none 0 0)) (by simp [results,Tryz.results33,go_sem,iH,b0,b1,b2,b3,b4]) rfl (HF.out w2 _ _ _ _ _ A' a1 a2 d1 d2 d3)
end
end
