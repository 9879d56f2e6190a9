/- A part. -/
import Derived.Test.YtnapepbdohidgaaGreatDoorQL13
set_option maxHeartbeats 4000000
set_option maxRecDepth 100000
open Go renaming World->Wj,Value->Wx
namespace Go.Proofs.Qw
open Tryz
section
open Go.Conc Go.ConcX Go.ConcX.Gen Go.RowKit
def Do (L:Lg)(u:Int):Lg:={L with opened:=(L.opened.map fun x=>x.again (x.left-u)).filter fun x=>!decide (x.left<=0)}
section
variable {A:Nat->Prop} {B k0:Nat} {L:Lg}
end
theorem wi (k0:Nat)(p:Option Addr)(w:Wj)(c0:w.cell? ⟨k0,0,none⟩=some (.pointer p)):Calls Yq.prog 41 #[.pointer (some ⟨k0,0,none⟩)] w fun e w'=>e=.returned (.agg #[.pointer p])/\w'=w.alloc (.cells #[.pointer p] 56):=by
 have hlt:k0<w.heap.size:=bC w _ c0;go_enter (Yq.nq func41),ntmps41;go_wp2_with fail
 exact bodyPost_ret (v:=.agg #[.pointer p]) (by simp [results,results41,go_sem]) rfl ⟨rfl,rfl⟩
theorem Dp (b:Bool)(p d a:ByteArray)(w:Wj):(Instr.build 93 #[(0,.bool b),(1,.string p),(2,.string d),(3,.string a)]).run Yq.prog w=.ok (.agg #[.bool b,.string p,.string d,.string a]) w:=by kernel_rfl
theorem wj (o:OpD)(w:Wj):Calls Yq.prog 42 #[bh o] w fun e w'=>e=.returned (qV (o.kind==7) o.key o.delim o.past)/\Below w.heap.size w w':=by
 obtain ⟨c,key,body,a,b,n,src⟩:=o;have hb:=Dp;unfold bh qV;go_enter (Yq.nq func42),ntmps42;go_wp2_with fail
 exact bodyPost_ret (v:=.agg #[.bool (c==7),.string key,.string a,.string b]) (by simp [results,results42,go_sem]) rfl ⟨rfl,((bR _ _).alloc (lR _) _).alloc (by simp) _⟩
structure cK (A:Nat->Prop)(B:Nat)(w:Wj)(k0:Nat)(st:St)(L:Lg):Prop where
 store:aF A w k0 st
 ls:fJ A B w k0 L
 time:w.cell? ⟨k0,3,none⟩=some (.int .u64 L.tm)
structure js (A:Nat->Prop)(B k0:Nat)(w w':Wj):Prop where
 os:w'.os=w.os
 size:w.heap.size<=w'.heap.size
 low:∀b,b<B->b<w.heap.size->b≠k0->w'.heap[b]?=w.heap[b]?
 tree:∀b,A b->b<w.heap.size->w'.heap[b]?=w.heap[b]?
 cells:∀j,6<j->w'.cell? ⟨k0,j,none⟩=w.cell? ⟨k0,j,none⟩
 fz:∀j,w'.frozen? ⟨k0,j,none⟩=w.frozen? ⟨k0,j,none⟩
section
variable {A A':Nat->Prop} {B k0:Nat} {w w' w'':Wj} {st:St} {L L':Lg}
theorem cf.weak (h:cf A B k0 w w'):js A B k0 w w':=⟨h.os,h.size,h.low,h.tree,fun j a=>h.cells j (.inr a),h.fz⟩
theorem js.trans (h:js A B k0 w w')(k:js A B k0 w' w''):js A B k0 w w'':=
 ⟨k.os.trans h.os,lT h.size k.size,fun b h1 h2 h3=>(k.low b h1 (lL h2 h.size) h3).trans (h.low b h1 h2 h3),fun b h1 h2=>(k.tree b h1 (lL h2 h.size)).trans (h.tree b h1 h2),fun j a=>(k.cells j a).trans (h.cells j a),fun j=>(k.fz j).trans (h.fz j)⟩
theorem aF.desk (S:aF A w k0 st)(hd:cf A B k0 w w')(hA:∀b,A b->A' b)(hk:¬A' k0):aF A' w' k0 st:=by
 obtain ⟨p,c0,a⟩:=S.tree;exact ⟨fun b hb e=>hk (e▸hb),⟨p,(hd.cells 0 (.inl (by omega))).trans c0,ak.keep (fun b hb hlt=>⟨hA b hb,hd.tree b hb hlt⟩) 41 _ _ a⟩,(hd.cells 1 (.inl (by omega))).trans S.count,(hd.cells 2 (.inl (by omega))).trans S.last,fun j=>(hd.fz j).trans (S.frozen j)⟩
theorem cK.step (h:cK A B w k0 st L)(hd:cf A B k0 w w')(hA:∀b,A b->A' b)(hl:fJ A' B w' k0 L')(ht:L'.tm=L.tm):cK A' B w' k0 st L':=
 ⟨h.store.desk hd hA hl.avoid,hl,by rw [ht];exact (hd.cells 3 (.inl (by omega))).trans h.time⟩
def Dq (L:Lg)(u:Int):Lg×Int:=if u<0\/1000<u then (L,11) else (Do {L with tm:=IntKind.u64.wrap (L.tm+u)} u,0)
end
def GB (x:LsA):ItD:=⟨0,⟨#[]⟩,x.left⟩
section
variable {A:Nat->Prop} {B k0:Nat} {L:Lg}
end
theorem dY.set {w:Wj}{b j:Nat}{x:Wx}(h:dY w b):dY (w.setCell ⟨b,j,none⟩ x) b:=by
 obtain ⟨a,e1,e2⟩:=h;cases a with
 |cells xs e z=>
  obtain ⟨g1,g2⟩:=eS e1;refine ⟨.cells (xs.setIfInBounds j x) e z,?_,rfl⟩;show (w.heap.modify b _)[b]?=_;rw [eG (by rw [Array.size_modify];exact g1),Array.getElem_modify_self,g2];rfl
 |_=>cases e2
section
variable {A:Nat->Prop} {B k0:Nat} {L L2:Lg} {w X W7 w8:Wj} {sv:Wx} {pg:List ItD} {r0:Nat}
end
theorem ee {P:Program}{ops:Array Oper}{o:Oper}{a:Act}{w:Wj}{K:Act->Wj->Prop}{Q:Exit->Act->Wj->Prop}{E:Prop}
  (hg:o.guard=none) (f:FuncId) (xs:Array Operand) (ts:Array TypeId) (c:o.op=Op.call {callee:=Callee.value (.func f),args:=xs,argTypes:=ts})
  (args:Array Wx) (hx:xs.map a.eval=args) (b:(callFunc f args).run P w=.ok (.enter f args) w)
  (R:Wx->Wj->Prop) (S:List PanicEntry->Wj->Prop) (h:Calls P f args w fun e w'=>(∃v,e=.returned v/\R v w')\/∃ch,e=.panicked ch/\S ch w') (hS:∀ch w',S ch w'->Q (.panic ch) a w') (i:∀v w',R v w'->K (a.put o.dst v) w'):
  if Region.wanted o (yielded ops a.tmps)=true then Oper.wp P o a w K Q else E:=by
 have hw:Region.wanted o (yielded ops a.tmps)=true:=by simp [Region.wanted,hg]
 rw [if_pos hw];subst hx;unfold Oper.wp;have e:(execOp a.eval o).run P w=.ok (.enter f (xs.map a.eval)) w:=by
  have e1:execOp a.eval o=(do let d <-resolve a.eval {callee:=Callee.value (.func f),args:=xs,argTypes:=ts} o.type;invoke d.target d.args):=by simp only [execOp,c]
  rw [e1];simpa [resolve,Deferred.ofValue,Act.eval,invoke] using b
 rw [e,Oper.upon_enter];refine h.mono ?_;rintro e w' (⟨v,rfl,hr⟩|⟨ch,rfl,hs⟩)
 .exact i v w' hr
 .exact hS ch w' hs
section
variable {A:Nat->Prop} {B k0:Nat} {L:Lg}
theorem nP (Qok:Qy->Prop)(hQ:∀q,Qok q->jl q/\jm q)(w:Wj)(h:fJ A B w k0 L)(_hB:B<=w.heap.size)(root:Option Addr)(f:List UInt8->List Ver)(q:Qy)(c:Int)(Q:ak A 41 w root f)(hq:Qok q)(u:fI (cD f q.p.data.toList)<=1000)(hp:q.p.size<=maxLen)(hbg:0<=L.begun/\L.begun<2199023255552)(U:L.opened.length<=3)(G:Wj->Prop)(J:∀w',G w'->dJ w')(P:∀w',au w w'->G w')(T:qo G (L.begun+1) 2)(O:(c<1\/20<c)\/(gC L f q c).tok 1=⟨#[]⟩\/3<=L.opened.length):
  Calls Yq.prog 40 #[.pointer (some ⟨k0,4,none⟩),sV root,qV q.vs q.p q.d q.af,.int .i64 c] w fun e w'=>
   (∃sv,e=.returned (.tuple #[.agg #[sv,.string (ez L f q c).2.2.1],.int .i64 (ez L f q c).2.2.2])/\cQ A B k0 w (ez L f q c).1 (ez L f q c).2.1 sv w')\/Stop Qok e w':=by
 have c5:=h.begun;obtain ⟨v4,c4,zs,z1,z2,z3,z4⟩:=h.opened;obtain ⟨F,H,rfl,-⟩:=aE z2;have hlz:L.opened.length=zs.length:=by rw [z1];simp
 have hlt:=h.lt;have HL:Hid (fJ A B w k0 L):=h;obtain ⟨k,p,d,m⟩:=q;unfold sV qV;by_cases hsz:c<1\/20<c
 .have M:ez L f ⟨k,p,d,m⟩ c=(L,[],⟨#[]⟩,7):=by rw [ez,if_pos hsz]
  rw [M];have hbp:=kQ;clear Q hq u hp hbg U T P J h hQ z1 z2 z3 z4 c4 c5;rcases hsz with h1|h2
  .go_enter (Yq.nq func40),ntmps40;go_wp2_with fail
   refine bodyPost_ret (v:=.tuple #[.agg #[.slice none 0 0,.string ⟨#[]⟩],.int .i64 7]) (by simp [results,results40,go_sem]) rfl (.inl ⟨_,rfl,cQ.same HL.out (((au.refl.alloc _).alloc _).alloc _)⟩)
  .have h1:¬c<1:=by omega
   go_enter (Yq.nq func40),ntmps40;go_wp2_with fail
   refine bodyPost_ret (v:=.tuple #[.agg #[.slice none 0 0,.string ⟨#[]⟩],.int .i64 7]) (by simp [results,results40,go_sem]) rfl (.inl ⟨_,rfl,cQ.same HL.out (((au.refl.alloc _).alloc _).alloc _)⟩)
 .have h1:¬c<1:=by omega
  have h2:¬20<c:=by omega
  have hbl:=sw;have hbp:=kQ;have hwb:wrap64 (L.begun+1)=L.begun+1:=by unfold wrap64;omega
  have hk1:k0<w.heap.size+1:=by omega
  have hk2:k0<w.heap.size+1+1:=by omega
  have hk3:k0<w.heap.size+1+1+1:=by omega
  obtain ⟨V,K⟩:∃V,V=((((w.alloc (.cells #[.pointer root] 56)).alloc (.cells #[.bool k,.string p,.string d,.string m] 93)).alloc (.cells #[.slice none 0 0,.string ⟨#[]⟩] 88)).alloc (.cells #[.int .i64 (L.begun+1),.pointer root,.bool k,.string p,.string d,.string m,.int .i64 c,.int .i64 10] 125)).drew:=⟨_,rfl⟩;have i:au w V:=by rw [K];exact ((((au.refl.alloc _).alloc _).alloc _).alloc _).drew
  have C:V.heap.size=w.heap.size+4:=by rw [K];simp
  have D:GR Qok ((gC L f ⟨k,p,d,m⟩ c).lst root) f V:=⟨.of (ak.keep (A':=fun _=>True) (fun b _ hlt=>⟨trivial,i.block b hlt⟩) 41 root f Q),hq,u,hp,J _ (P _ i)⟩;have HP0:=AG Qok hQ ((gC L f ⟨k,p,d,m⟩ c).lst root) 1 f V D G (fun w' hl=>P w' (i.trans hl)) (fun _=>T);obtain ⟨s,htk⟩:∃s,s=(gC L f ⟨k,p,d,m⟩ c).tok 1:=⟨_,rfl⟩;obtain ⟨pg,E⟩:∃pg,pg=(gC L f ⟨k,p,d,m⟩ c).page 1:=⟨_,rfl⟩;have HP:Calls Yq.prog 69 #[.agg #[.int .i64 (L.begun+1),.pointer root,.bool k,.string p,.string d,.string m,.int .i64 c,.int .i64 10],.int .i64 1] V fun e w'=>(∃o n sc,e=.returned (.agg #[.slice o n sc,.string s])/\w'.ownsRow V.heap.size 41 3 (.slice o n sc) pg.length (an pg)/\au V w')\/Stop Qok e w':=by
   refine HP0.mono ?_;rintro e w' (⟨sv,rfl,h3,h4⟩|h)
   .left
    rw [htk,E];rw [jr (l:=(gC L f ⟨k,p,d,m⟩ c).lst root) (l':=(gC L f ⟨k,p,d,m⟩ c).lst none) rfl] at h3;obtain ⟨o,n,sc,rfl⟩:∃o n sc,sv=.slice o n sc:=by
     rcases h3.2 with ⟨rfl,-⟩|⟨g,cap,cur,rfl,-⟩
     .exact ⟨_,_,_,rfl⟩
     .exact ⟨_,_,_,rfl⟩
    exact ⟨o,n,sc,rfl,h3,h4⟩
   .exact .inr h
  clear HP0;have HF:Hid (∀w1,au V w1->((w1.cell? ⟨w.heap.size+1+1+1,0,none⟩=some (.int .i64 (L.begun+1))/\w1.cell? ⟨w.heap.size+1+1+1,1,none⟩=some (.pointer root)/\w1.cell? ⟨w.heap.size+1+1+1,2,none⟩=some (.bool k)/\w1.cell? ⟨w.heap.size+1+1+1,3,none⟩=some (.string p)/\w1.cell? ⟨w.heap.size+1+1+1,4,none⟩=some (.string d)/\w1.cell? ⟨w.heap.size+1+1+1,5,none⟩=some (.string m)/\w1.cell? ⟨w.heap.size+1+1+1,6,none⟩=some (.int .i64 c)/\w1.cell? ⟨w.heap.size+1+1+1,7,none⟩=some (.int .i64 10)) /\
    (w1.cell? ⟨w.heap.size+1+1,0,none⟩=some (.slice none 0 0)/\w1.cell? ⟨w.heap.size+1+1,1,none⟩=some (.string ⟨#[]⟩)/\w1.frozen? ⟨w.heap.size+1+1,0,none⟩=false/\w1.frozen? ⟨w.heap.size+1+1,1,none⟩=false) /\
    (w1.cell? ⟨k0,4,none⟩=some (.slice F zs.length H)/\w1.cell? ⟨k0,5,none⟩=some (.int .i64 L.begun)/\w1.frozen? ⟨k0,4,none⟩=false/\w1.frozen? ⟨k0,5,none⟩=false)/\(w.heap.size+1+1<w1.heap.size/\w.heap.size+1+1+1<w1.heap.size/\k0<w1.heap.size))):=fun w1 hl=>by
   have Z:V.heap[w.heap.size+3]?=some (.cells #[.int .i64 (L.begun+1),.pointer root,.bool k,.string p,.string d,.string m,.int .i64 c,.int .i64 10] 125):=by
    rw [K];simp only [World.drew,World.alloc,gP,Array.size_push]
    repeat rw [if_neg (by omega)]
    simp
   have r2:V.heap[w.heap.size+2]?=some (.cells #[.slice none 0 0,.string ⟨#[]⟩] 88):=by
    rw [K];simp only [World.drew,World.alloc,gP,Array.size_push]
    repeat rw [if_neg (by omega)]
    simp
   have e3:=(hl.block _ (by omega)).trans Z;have e2:=(hl.block _ (by omega)).trans r2;have hfz:∀j,w1.frozen? ⟨k0,j,none⟩=false:=fun j=>(fB (a:=⟨k0,j,none⟩) ((i.trans hl).block k0 hlt)).trans (HL.out.frozen j)
   have:=hl.size;refine ⟨⟨?_,?_,?_,?_,?_,?_,?_,?_⟩,⟨?_,?_,?_,?_⟩,⟨(i.trans hl).cell c4,(i.trans hl).cell c5,hfz 4,hfz 5⟩,by omega,by omega,by omega⟩;all_goals simp [World.cell?,World.frozen?,e3,e2]
  have HX:Hid (au w V/\ak A 41 w root f/\V.heap.size=w.heap.size+4):=⟨i,Q,C⟩;have HZ:Hid (L.opened=zs.map (·.1)/\w.ownsRow B 125 8 (.slice F zs.length H) zs.length (fg zs)/\(∀g,(Value.slice F zs.length H).ownBlock=some g->¬A g)/\∀z∈zs,ak A 41 w z.2 z.1.f):=⟨z1,z2,z3,z4⟩;have HB:Hid (ez L f ⟨k,p,d,m⟩ c=(if s=⟨#[]⟩ then (L,pg,⟨#[]⟩,0) else if 3<=L.opened.length then (L,[],⟨#[]⟩,8) else (⟨L.opened++[gC L f ⟨k,p,d,m⟩ c],L.begun+1,mt s (L.begun+1,2) L.told,L.tm⟩,pg,s,0))):=by
   show ez L f ⟨k,p,d,m⟩ c=_;rw [ez,if_neg hsz,htk,E]
  generalize ez L f ⟨k,p,d,m⟩ c=R at *;have HV:Hid (V=((((w.alloc (.cells #[.pointer root] 56)).alloc (.cells #[.bool k,.string p,.string d,.string m] 93)).alloc (.cells #[.slice none 0 0,.string ⟨#[]⟩] 88)).alloc (.cells #[.int .i64 (L.begun+1),.pointer root,.bool k,.string p,.string d,.string m,.int .i64 c,.int .i64 10] 125)).drew):=K;have X:Hid (s=(gC L f ⟨k,p,d,m⟩ c).tok 1):=htk;clear K i C D htk E Q z1 z2 z3 z4 P J T hq u hp h hQ;by_cases htk:s=⟨#[]⟩
  .subst htk;have M:R=(L,pg,⟨#[]⟩,0):=by rw [HB.out,if_pos rfl]
   subst M;go_enter (Yq.nq func40),ntmps40;go_wp2_with fail
   go_region
   rw [<-HV.out];obtain ⟨⟨a0,a1,a2,a3,a4,a5,a6,a7⟩,-⟩:=HF.out V au.refl;go_wp2_with (go_at_call 69;refine HP.mono ?_;clear HP;rintro e w1 (⟨o,n,sc,rfl,hrow,t⟩|⟨x,y,r,rfl,hst⟩);rotate_left;exact ⟨rfl,Or.inr ⟨x,y,r,rfl,hst⟩⟩;obtain ⟨⟨q0,q1,q2,q3,q4,q5,q6,q7⟩,⟨s0,s1,z0,z1⟩,⟨m4,m5,n4,n5⟩,Y,y3,yk⟩:=HF.out w1 t)
   obtain ⟨i,-,C⟩:=HX.out;have S:∀b,b≠w.heap.size+1+1->b<w1.heap.size->(((w1.setCell ⟨w.heap.size+1+1,0,none⟩ (.slice o n sc)).setCell ⟨w.heap.size+1+1,1,none⟩ (.string ⟨#[]⟩)).alloc (.cells #[.slice o n sc,.string ⟨#[]⟩] 88)).heap[b]?=w1.heap[b]?:=fun b h1 h2=>by
    rw [bA _ _ _ (by simpa using h2),bS _ _ _ _ h1,bS _ _ _ _ h1]
   have I:au w (((w1.setCell ⟨w.heap.size+1+1,0,none⟩ (.slice o n sc)).setCell ⟨w.heap.size+1+1,1,none⟩ (.string ⟨#[]⟩)).alloc (.cells #[.slice o n sc,.string ⟨#[]⟩] 88)):=(((i.trans t).set (by omega) _ _).set (by omega) _ _).alloc _;refine bodyPost_ret (v:=.tuple #[.agg #[.slice o n sc,.string ⟨#[]⟩],.int .i64 0]) (by simp [results,results40,go_sem,s0,s1,Y]) rfl (.inl ⟨_,rfl,cQ.page HL.out I hrow (by omega) fun g h1 h2=>S g (by omega) h2⟩)
  .have N:¬s.toList=[]:=fun hx=>by
    have:(s==(⟨#[]⟩:ByteArray))=true:=by rw [beq_toListBytes];simpa using hx
    exact htk ((MapKept.bytes_beq _ _).1 this)
   have hne:(s.toList == [])=false:=by simpa using N
   by_cases h3:3<=L.opened.length
   .have M:R=(L,[],⟨#[]⟩,8):=by rw [HB.out,if_neg htk,if_pos h3]
    subst M;have h3i:(3:Int)<=(zs.length:Int):=by omega
    go_enter (Yq.nq func40),ntmps40;go_wp2_with fail
    go_region
    rw [<-HV.out];obtain ⟨⟨a0,a1,a2,a3,a4,a5,a6,a7⟩,-⟩:=HF.out V au.refl;go_wp2_with (go_at_call 69;refine HP.mono ?_;clear HP;rintro e w1 (⟨o,n,sc,rfl,hrow,t⟩|⟨x,y,r,rfl,hst⟩);rotate_left;exact ⟨rfl,Or.inr ⟨x,y,r,rfl,hst⟩⟩;obtain ⟨⟨q0,q1,q2,q3,q4,q5,q6,q7⟩,⟨s0,s1,z0,z1⟩,⟨m4,m5,n4,n5⟩,Y,y3,yk⟩:=HF.out w1 t)
    obtain ⟨i,-,C⟩:=HX.out;have I:au w (((w1.setCell ⟨w.heap.size+1+1,0,none⟩ (.slice none 0 0)).setCell ⟨w.heap.size+1+1,1,none⟩ (.string ⟨#[]⟩)).alloc (.cells #[.slice o n sc,.string s] 88)):=(((i.trans t).set (by omega) _ _).set (by omega) _ _).alloc _;refine bodyPost_ret (v:=.tuple #[.agg #[.slice none 0 0,.string ⟨#[]⟩],.int .i64 8]) (by simp [results,results40,go_sem,s0,s1,Y]) rfl (.inl ⟨_,rfl,cQ.same HL.out I⟩)
   .rcases O with h|h|h
    .exact absurd h hsz
    .rw [<-X.out] at h;exact absurd h htk
    .exact absurd h h3
theorem AM (Qok:Qy->Prop)(hQ:∀q,Qok q->jl q/\jm q)(w:Wj)(h:fJ A B w k0 L)(hB:B<=w.heap.size)(root:Option Addr)(f:List UInt8->List Ver)(q:Qy)(c:Int)(hN:ak A 41 w root f)(hq:Qok q)(N:fI (cD f q.p.data.toList)<=1000)(hp:q.p.size<=maxLen)(hbg:0<=L.begun/\L.begun<2199023255552)(hop:L.opened.length<=3)(G:Wj->Prop)(ac:∀w',G w'->dJ w')(hG:∀w',au w w'->G w')(hT:qo G (L.begun+1) 2)(hsz:¬(c<1\/20<c))(O:(gC L f q c).tok 1≠⟨#[]⟩)(h3:¬3<=L.opened.length):
    Calls Yq.prog 40 #[.pointer (some ⟨k0,4,none⟩),sV root,qV q.vs q.p q.d q.af,.int .i64 c] w fun e w'=>
      (∃sv,e=.returned (.tuple #[.agg #[sv,.string (ez L f q c).2.2.1],.int .i64 (ez L f q c).2.2.2])/\cQ A B k0 w (ez L f q c).1 (ez L f q c).2.1 sv w')\/Stop Qok e w':=by
  have c5:=h.begun;obtain ⟨v4,c4,zs,z1,z2,z3,z4⟩:=h.opened;obtain ⟨C,D,rfl,-⟩:=aE z2;have hlz:L.opened.length=zs.length:=by rw [z1];simp
  have hlt:=h.lt;have HL:Hid (fJ A B w k0 L):=h;obtain ⟨i,p,d,k⟩:=q;unfold sV qV;have h1:¬c<1:=by omega
  have h2:¬20<c:=by omega
  have hbl:=sw;have hbp:=kQ;have hwb:wrap64 (L.begun+1)=L.begun+1:=by unfold wrap64;omega
  have hk1:k0<w.heap.size+1:=by omega
  have hk2:k0<w.heap.size+1+1:=by omega
  have hk3:k0<w.heap.size+1+1+1:=by omega
  obtain ⟨V,T⟩:∃V,V=((((w.alloc (.cells #[.pointer root] 56)).alloc (.cells #[.bool i,.string p,.string d,.string k] 93)).alloc (.cells #[.slice none 0 0,.string ⟨#[]⟩] 88)).alloc (.cells #[.int .i64 (L.begun+1),.pointer root,.bool i,.string p,.string d,.string k,.int .i64 c,.int .i64 10] 125)).drew:=⟨_,rfl⟩;have F:au w V:=by rw [T];exact ((((au.refl.alloc _).alloc _).alloc _).alloc _).drew
  have Z:V.heap.size=w.heap.size+4:=by rw [T];simp
  have M:GR Qok ((gC L f ⟨i,p,d,k⟩ c).lst root) f V:=⟨.of (ak.keep (A':=fun _=>True) (fun b _ hlt=>⟨trivial,F.block b hlt⟩) 41 root f hN),hq,N,hp,ac _ (hG _ F)⟩;have HP0:=AG Qok hQ ((gC L f ⟨i,p,d,k⟩ c).lst root) 1 f V M G (fun w' hl=>hG w' (F.trans hl)) (fun _=>hT);obtain ⟨s,htk⟩:∃s,s=(gC L f ⟨i,p,d,k⟩ c).tok 1:=⟨_,rfl⟩;obtain ⟨pg,P⟩:∃pg,pg=(gC L f ⟨i,p,d,k⟩ c).page 1:=⟨_,rfl⟩;have HP:Calls Yq.prog 69 #[.agg #[.int .i64 (L.begun+1),.pointer root,.bool i,.string p,.string d,.string k,.int .i64 c,.int .i64 10],.int .i64 1] V fun e w'=>(∃n m sc,e=.returned (.agg #[.slice n m sc,.string s])/\w'.ownsRow V.heap.size 41 3 (.slice n m sc) pg.length (an pg)/\au V w')\/Stop Qok e w':=by
    refine HP0.mono ?_;rintro e w' (⟨sv,rfl,h3,h4⟩|h)
    . left
      rw [htk,P];rw [jr (l:=(gC L f ⟨i,p,d,k⟩ c).lst root) (l':=(gC L f ⟨i,p,d,k⟩ c).lst none) rfl] at h3;obtain ⟨n,m,sc,rfl⟩:∃n m sc,sv=.slice n m sc:=by
        rcases h3.2 with ⟨rfl,-⟩|⟨g,cap,cur,rfl,-⟩
        . exact ⟨_,_,_,rfl⟩
        . exact ⟨_,_,_,rfl⟩
      exact ⟨n,m,sc,rfl,h3,h4⟩
    . exact .inr h
  clear HP0;have HF:Hid (∀w1,au V w1->((w1.cell? ⟨w.heap.size+1+1+1,0,none⟩=some (.int .i64 (L.begun+1))/\w1.cell? ⟨w.heap.size+1+1+1,1,none⟩=some (.pointer root)/\w1.cell? ⟨w.heap.size+1+1+1,2,none⟩=some (.bool i)/\w1.cell? ⟨w.heap.size+1+1+1,3,none⟩=some (.string p)/\w1.cell? ⟨w.heap.size+1+1+1,4,none⟩=some (.string d)/\w1.cell? ⟨w.heap.size+1+1+1,5,none⟩=some (.string k)/\w1.cell? ⟨w.heap.size+1+1+1,6,none⟩=some (.int .i64 c)/\w1.cell? ⟨w.heap.size+1+1+1,7,none⟩=some (.int .i64 10)) /\
      (w1.cell? ⟨w.heap.size+1+1,0,none⟩=some (.slice none 0 0)/\w1.cell? ⟨w.heap.size+1+1,1,none⟩=some (.string ⟨#[]⟩)/\w1.frozen? ⟨w.heap.size+1+1,0,none⟩=false/\w1.frozen? ⟨w.heap.size+1+1,1,none⟩=false) /\
      (w1.cell? ⟨k0,4,none⟩=some (.slice C zs.length D)/\w1.cell? ⟨k0,5,none⟩=some (.int .i64 L.begun)/\w1.frozen? ⟨k0,4,none⟩=false/\w1.frozen? ⟨k0,5,none⟩=false)/\(w.heap.size+1+1<w1.heap.size/\w.heap.size+1+1+1<w1.heap.size/\k0<w1.heap.size))):=fun w1 hl=>by
    have r3:V.heap[w.heap.size+3]?=some (.cells #[.int .i64 (L.begun+1),.pointer root,.bool i,.string p,.string d,.string k,.int .i64 c,.int .i64 10] 125):=by
      rw [T];simp only [World.drew,World.alloc,gP,Array.size_push]
      repeat rw [if_neg (by omega)]
      simp
    have r2:V.heap[w.heap.size+2]?=some (.cells #[.slice none 0 0,.string ⟨#[]⟩] 88):=by
      rw [T];simp only [World.drew,World.alloc,gP,Array.size_push]
      repeat rw [if_neg (by omega)]
      simp
    have e3:=(hl.block _ (by omega)).trans r3;have e2:=(hl.block _ (by omega)).trans r2;have hfz:∀j,w1.frozen? ⟨k0,j,none⟩=false:=fun j=>(fB (a:=⟨k0,j,none⟩) ((F.trans hl).block k0 hlt)).trans (HL.out.frozen j)
    have:=hl.size;refine ⟨⟨?_,?_,?_,?_,?_,?_,?_,?_⟩,⟨?_,?_,?_,?_⟩,⟨(F.trans hl).cell c4,(F.trans hl).cell c5,hfz 4,hfz 5⟩,by omega,by omega,by omega⟩;all_goals simp [World.cell?,World.frozen?,e3,e2]
  have HX:Hid (au w V/\ak A 41 w root f/\V.heap.size=w.heap.size+4):=⟨F,hN,Z⟩;have HZ:Hid (L.opened=zs.map (·.1)/\w.ownsRow B 125 8 (.slice C zs.length D) zs.length (fg zs)/\(∀g,(Value.slice C zs.length D).ownBlock=some g->¬A g)/\∀z∈zs,ak A 41 w z.2 z.1.f):=⟨z1,z2,z3,z4⟩;have HB:Hid (ez L f ⟨i,p,d,k⟩ c=(if s=⟨#[]⟩ then (L,pg,⟨#[]⟩,0) else if 3<=L.opened.length then (L,[],⟨#[]⟩,8) else (⟨L.opened++[gC L f ⟨i,p,d,k⟩ c],L.begun+1,mt s (L.begun+1,2) L.told,L.tm⟩,pg,s,0))):=by
    show ez L f ⟨i,p,d,k⟩ c=_;rw [ez,if_neg hsz,<-htk,<-P]
  generalize ez L f ⟨i,p,d,k⟩ c=R at *;have HV:Hid (V=((((w.alloc (.cells #[.pointer root] 56)).alloc (.cells #[.bool i,.string p,.string d,.string k] 93)).alloc (.cells #[.slice none 0 0,.string ⟨#[]⟩] 88)).alloc (.cells #[.int .i64 (L.begun+1),.pointer root,.bool i,.string p,.string d,.string k,.int .i64 c,.int .i64 10] 125)).drew):=T;rw [<-htk] at O;replace htk:=O;clear T F Z M P hN z1 z2 z3 z4 hG ac hT hq N hp h hQ;have ab:¬s.toList=[]:=fun hx=>by
    have:(s==(⟨#[]⟩:ByteArray))=true:=by rw [beq_toListBytes];simpa using hx
    exact htk ((MapKept.bytes_beq _ _).1 this)
  have hne:(s.toList == [])=false:=by simpa using ab
  have hR:R=(⟨L.opened++[gC L f ⟨i,p,d,k⟩ c],L.begun+1,mt s (L.begun+1,2) L.told,L.tm⟩,pg,s,0):=by rw [HB.out,if_neg htk,if_neg h3]
  subst hR;have h3i:¬(3:Int)<=(zs.length:Int):=by omega
  obtain ⟨i0,bd,ar,bb,av⟩:=info_parts Yq.infoLst;have hbq:=uG;obtain ⟨cL,hcL⟩:∃cL:Array Wx,cL=#[.int .i64 (L.begun+1),.pointer root,.bool i,.string p,.string d,.string k,.int .i64 c,.int .i64 10]:=⟨_,rfl⟩;have ad:Hid (∀w1,au V w1->∀o o':Obj,((w1.alloc o).alloc o').drew.ownsRow B 125 8 (.slice C zs.length D) zs.length (fg zs)/\B<=((w1.alloc o).alloc o').drew.heap.size):=fun w1 hl o o'=>by
    have h5:au w ((w1.alloc o).alloc o').drew:=(((HX.out.1.trans hl).alloc o).alloc o').drew;exact ⟨dA HZ.out.2.1 fun g _ hg=>h5.block g hg,lT hB h5.size⟩
  have ap:Hid (∀ (w1:Wj) (o:Obj),∀j u,[Value.int .i64 (L.begun+1),.pointer root,.bool i,.string p,.string d,.string k,.int .i64 c,.int .i64 10][j]?=some u->((w1.alloc o).alloc (.cells #[.int .i64 (L.begun+1),.pointer root,.bool i,.string p,.string d,.string k,.int .i64 c,.int .i64 10] 125)).drew.cell? ((⟨w1.heap.size+1,0,none⟩:Addr).add j)=some u):=fun w1 o j u hj=>by
    have:=G2 (w1.alloc o) _ 125 j u hj
    rwa [World.size_alloc] at this
  have a9:Hid (∀w1,au V w1->∀n m sc w3,((w1.alloc (.cells #[.slice n m sc,.string s] 88)).alloc (.cells #[.int .i64 (L.begun+1),.pointer root,.bool i,.string p,.string d,.string k,.int .i64 c,.int .i64 10] 125)).drew.grownBy w3 (Value.slice C zs.length D).ownBlock ->
      ((w3.cell? ⟨k0,4,none⟩=some (.slice C zs.length D)/\w3.cell? ⟨k0,5,none⟩=some (.int .i64 L.begun)/\w3.frozen? ⟨k0,4,none⟩=false/\w3.frozen? ⟨k0,5,none⟩=false) /\
       (w3.cell? ⟨w1.heap.size,0,none⟩=some (.slice n m sc)/\w3.cell? ⟨w1.heap.size,1,none⟩=some (.string s)/\w3.cell? ⟨w.heap.size+1+1+1,0,none⟩=some (.int .i64 (L.begun+1))) /\
       (w3.cell? ⟨w.heap.size+1+1,0,none⟩=some (.slice none 0 0)/\w3.cell? ⟨w.heap.size+1+1,1,none⟩=some (.string ⟨#[]⟩)/\w3.frozen? ⟨w.heap.size+1+1,0,none⟩=false/\w3.frozen? ⟨w.heap.size+1+1,1,none⟩=false) /\
       w.heap.size+1+1<w3.heap.size/\w.heap.size+1+1+1<w3.heap.size/\w1.heap.size<w3.heap.size/\k0<w3.heap.size)):=fun w1 E n m sc w3 t=>by
    obtain ⟨⟨q0,q1,q2,q3,q4,q5,q6,q7⟩,⟨s0,s1,z0,z1⟩,⟨m4,m5,n4,n5⟩,y2,y3,yk⟩:=HF.out w1 E;have Q:au w1 ((w1.alloc (.cells #[.slice n m sc,.string s] 88)).alloc (.cells #[.int .i64 (L.begun+1),.pointer root,.bool i,.string p,.string d,.string k,.int .i64 c,.int .i64 10] 125)).drew:=((au.refl.alloc _).alloc _).drew;have hsz:((w1.alloc (.cells #[.slice n m sc,.string s] 88)).alloc (.cells #[.int .i64 (L.begun+1),.pointer root,.bool i,.string p,.string d,.string k,.int .i64 c,.int .i64 10] 125)).drew.heap.size=w1.heap.size+2:=by simp
    have H:∀b,w.heap.size<=b->some b≠(Value.slice C zs.length D).ownBlock:=fun b hb e=>by have:=(HZ.out.2.1.lt b e.symm).2;omega
    have a8:some k0≠(Value.slice C zs.length D).ownBlock:=fun e=>by have:=(HZ.out.2.1.lt k0 e.symm).1;have:=HL.out.low;omega
    have bk:w3.heap[k0]?=w1.heap[k0]?:=(t.block k0 (by omega) a8).trans (Q.block k0 yk);have U:w3.heap[w.heap.size+1+1]?=w1.heap[w.heap.size+1+1]?:=(t.block _ (by omega) (H _ (by omega))).trans (Q.block _ y2);have b3:w3.heap[w.heap.size+1+1+1]?=w1.heap[w.heap.size+1+1+1]?:=(t.block _ (by omega) (H _ (by omega))).trans (Q.block _ y3);have b1:w3.heap[w1.heap.size]?=some (.cells #[.slice n m sc,.string s] 88):=by
      rw [t.block _ (by omega) (H _ (by omega))];show ((w1.alloc (.cells #[.slice n m sc,.string s] 88)).alloc _).heap[w1.heap.size]?=_;rw [bA _ _ _ (by simp)];exact aN _ _
    have:=t.size;have J:∀ {b:Nat},w3.heap[b]?=w1.heap[b]?->∀j,w3.cell? ⟨b,j,none⟩=w1.cell? ⟨b,j,none⟩:=fun h j=>cB (a:=⟨_,j,none⟩) h
    have K:∀ {b:Nat},w3.heap[b]?=w1.heap[b]?->∀j,w3.frozen? ⟨b,j,none⟩=w1.frozen? ⟨b,j,none⟩:=fun h j=>fB (a:=⟨_,j,none⟩) h
    refine ⟨⟨(J bk 4).trans m4,(J bk 5).trans m5,(K bk 4).trans n4,(K bk 5).trans n5⟩,⟨by simp [World.cell?,b1],by simp [World.cell?,b1],(J b3 0).trans q0⟩,⟨(J U 0).trans s0,(J U 1).trans s1,(K U 0).trans z0,(K U 1).trans z1⟩,by omega,by omega,by omega,by omega⟩
  have al:Hid (∀w1,au V w1->∀n m sc,w1.ownsRow V.heap.size 41 3 (.slice n m sc) pg.length (an pg)->∀w3 v',w3.ownsRow B 125 8 v' (zs.length+1) (fg zs++[.int .i64 (L.begun+1),.pointer root,.bool i,.string p,.string d,.string k,.int .i64 c,.int .i64 10])->((w1.alloc (.cells #[.slice n m sc,.string s] 88)).alloc (.cells #[.int .i64 (L.begun+1),.pointer root,.bool i,.string p,.string d,.string k,.int .i64 c,.int .i64 10] 125)).drew.grownBy w3 (Value.slice C zs.length D).ownBlock ->
      (∀g,v'.ownBlock=some g->(Value.slice C zs.length D).ownBlock=some g\/((w1.alloc (.cells #[.slice n m sc,.string s] 88)).alloc (.cells #[.int .i64 (L.begun+1),.pointer root,.bool i,.string p,.string d,.string k,.int .i64 c,.int .i64 10] 125)).drew.heap.size<=g)->w1.cell? ⟨w.heap.size+1+1,0,none⟩=some (.slice none 0 0) ->
      Calls Yq.prog 70 #[.pointer (some ⟨k0,4,none⟩),.string s,.agg #[.int .i64 (L.begun+1),.int .i64 2]] ((w3.setCell ⟨k0,4,none⟩ v').setCell ⟨k0,5,none⟩ (.int .i64 (L.begun+1))) fun e w6=>e=.returned (.tuple #[])/\dR k0 ((w3.setCell ⟨k0,4,none⟩ v').setCell ⟨k0,5,none⟩ (.int .i64 (L.begun+1))) w6 /\
        ∀y0 y1,cQ A B k0 w ⟨L.opened++[gC L f ⟨i,p,d,k⟩ c],L.begun+1,mt s (L.begun+1,2) L.told,L.tm⟩ pg (.slice n m sc) ((w6.setCell ⟨w.heap.size+1+1,0,none⟩ y0).setCell ⟨w.heap.size+1+1,1,none⟩ y1)):=
    fun w1 E n m sc hrow w3 v' ho3 t H Y=>FF HL.out hB HX.out.1 HX.out.2.2 E hrow c4 HZ.out.1 HZ.out.2.1 HZ.out.2.2.1 HZ.out.2.2.2 (x:=gC L f ⟨i,p,d,k⟩ c) HX.out.2.1 _ _ ho3 t H (L.begun+1) s (L.begun+1,2) Y
  go_enter (Yq.nq func40),ntmps40;go_wp2_with fail
  go_region
  rw [<-HV.out];obtain ⟨⟨a0,a1,a2,a3,a4,a5,a6,a7⟩,-⟩:=HF.out V au.refl;go_wp2_with (go_at_call 69;refine HP.mono ?_;clear HP;rintro e w1 (⟨n,m,sc,rfl,hrow,E⟩|⟨x,y,r,rfl,hst⟩);rotate_left;exact ⟨rfl,Or.inr ⟨x,y,r,rfl,hst⟩⟩;obtain ⟨⟨q0,q1,q2,q3,q4,q5,q6,q7⟩,⟨s0,s1,z0,z1⟩,⟨m4,m5,n4,n5⟩,y2,y3,yk⟩:=HF.out w1 E)
  have yk1:k0<w1.heap.size+1:=by omega
  have y31:w.heap.size+1+1+1<w1.heap.size+1:=by omega
  go_region_law (refine mu rfl (.tmp 47) (.tmp 49) 60 rfl B 125 i0 _ 8 88 (Yq.u underlying60) bd ar bb av rfl (by decide) (.slice C zs.length D) zs.length (fg zs) (by simp [Act.eval]) (ad.out w1 E _ _).1 ⟨w1.heap.size+1,0,none⟩ 1 1 [.int .i64 (L.begun+1),.pointer root,.bool i,.string p,.string d,.string k,.int .i64 c,.int .i64 10] (by simp [Act.eval]) rfl (ap.out _ _) (one8 ((gC L f ⟨i,p,d,k⟩ c).lst root)) (by simp only [maxLen];omega) (by omega) (ad.out w1 E _ _).2 ?_;intro v' w3 ho3 t H;obtain ⟨va',vc',rfl,-⟩:=aE ho3;obtain ⟨⟨b4,b5,g4,g5⟩,⟨b0,b1,U⟩,⟨t0,t1,u0,u1⟩,x2,x3,x4,xk⟩:=a9.out w1 E n m sc w3 t;have S:Hid (_/\_/\_):=And.intro ho3 (And.intro t H);clear ho3 t H)
  all_goals
    have HK:=(al.out w1 E n m sc hrow w3 _ S.out.1 S.out.2.1 S.out.2.2 s0);clear al;go_wp2_with (go_at_call 70;refine HK.mono ?_;clear HK;rintro e w6 ⟨rfl,I,X⟩;have p0:=I.cell (fh b0 (by omega)) (by omega);have p1:=I.cell (fh b1 (by omega)) (by omega);have r0:=I.cell (fh t0 (by omega)) (by omega);have r1:=I.cell (fh t1 (by omega)) (by omega);have e0:w6.frozen? ⟨w.heap.size+1+1,0,none⟩=false:=(by rw [I.frozen (fh t0 (by omega)) (by omega),World.frozen?_setCell,World.frozen?_setCell];exact u0);have e1:w6.frozen? ⟨w.heap.size+1+1,1,none⟩=false:=(by rw [I.frozen (fh t1 (by omega)) (by omega),World.frozen?_setCell,World.frozen?_setCell];exact u1))
    exact bodyPost_ret (v:=.tuple #[.agg #[.slice n m sc,.string s],.int .i64 0]) (by simp [results,results40,go_sem,r0,r1]) rfl (.inl ⟨_,rfl,X _ _⟩)
end
theorem wk {A:Nat->Prop}{B k0:Nat}{L:Lg}(Qok:Qy->Prop)(hQ:∀q,Qok q->jl q/\jm q)(w:Wj)(h:fJ A B w k0 L)(k:B<=w.heap.size)(root:Option Addr)(f:List UInt8->List Ver)(q:Qy)(a:Int)(j:ak A 41 w root f)(hq:Qok q)(b:fI (cD f q.p.data.toList)<=1000)(hp:q.p.size<=maxLen)(hbg:0<=L.begun/\L.begun<2199023255552)(c:L.opened.length<=3)(G:Wj->Prop)(i:∀w',G w'->dJ w')(m:∀w',au w w'->G w')(l:qo G (L.begun+1) 2):
  Calls Yq.prog 40 #[.pointer (some ⟨k0,4,none⟩),sV root,qV q.vs q.p q.d q.af,.int .i64 a] w fun e w'=>
   (∃sv,e=.returned (.tuple #[.agg #[sv,.string (ez L f q a).2.2.1],.int .i64 (ez L f q a).2.2.2])/\cQ A B k0 w (ez L f q a).1 (ez L f q a).2.1 sv w')\/Stop Qok e w':=by
 by_cases h1:a<1\/20<a
 .exact nP Qok hQ w h k root f q a j hq b hp hbg c G i m l (.inl h1)
 .by_cases h2:(gC L f q a).tok 1=⟨#[]⟩
  .exact nP Qok hQ w h k root f q a j hq b hp hbg c G i m l (.inr (.inl h2))
  .by_cases h3:3<=L.opened.length
   .exact nP Qok hQ w h k root f q a j hq b hp hbg c G i m l (.inr (.inr h3))
   .exact AM Qok hQ w h k root f q a j hq b hp hbg c G i m l h1 h2 h3
structure jX where
 code:Int
 ver:Int
 body:ByteArray
 items:List ItD
 tok:ByteArray
def qH (a:jX)(sv:Wx):Wx:=.agg #[.int .i64 a.code,.int .i64 a.ver,.string a.body,sv,.string a.tok]
def dv (A:Nat->Prop)(B k0:Nat)(w:Wj)(c:St)(L':Lg)(a:jX)(e:Ending)(w':Wj):Prop:=
 ∃sv,e=.returned (qH a sv)/\∃A':Nat->Prop,(∀b,A b->A' b)/\(∀b,A' b->A b\/w.heap.size<=b)/\cK A' B w' k0 c L'/\js A B k0 w w'/\bO A' w' sv a.items.length (an a.items)
section
variable {A A':Nat->Prop} {B k0:Nat} {w w' w'':Wj} {st:St} {L L':Lg}
theorem js.left (hk:k0<w.heap.size)(h:au w w'):js A B k0 w w':=(cf.left hk h).weak
theorem cK.left (h:cK A B w k0 st L)(hl:au w w'):cK A B w' k0 st L:=h.step (cf.left h.ls.lt hl) (fun _ h=>h) (h.ls.left hl) rfl
theorem cK.other {b j:Nat}{x:Wx}(h:cK A B w k0 st L)(hb:b≠k0)(hA:¬A b)(hcl:dY w b)(hv:¬jW k0 w b)(a:B<=b):cK A B (w.setCell ⟨b,j,none⟩ x) k0 st L:=
 h.step (cf.other hb hA a) (fun _ h=>h) (h.ls.other hb hA hcl (fun v _g e1 e2 e3=>hv ⟨v,e1,e3▸e2⟩)) rfl
theorem AN {W0 w1:Wj}{r:Nat}{sv:Wx}{its:List ItD}(p:au w W0)(hk:k0<w.heap.size)(hBw:B<=w.heap.size)(hr:w.heap.size<=r)(hrl:r<W0.heap.size)(k:dY W0 r)(_hA1:∀b,A b->A' b)(m:∀b,A' b->A b\/W0.heap.size<=b)(l:∀b,A b->b<w.heap.size)(hd:cK A' B w1 k0 st L')(o:js A B k0 W0 w1)(hf:FrC k0 W0 w1)(ho:∀g,jW k0 W0 g->g<w.heap.size)(hrow:bO A' w1 sv its.length (an its))(x0 x1 x2 n x4:Wx):
  (∀b,A' b->A b\/w.heap.size<=b)/\cK A' B (put5 w1 r x0 x1 x2 n x4) k0 st L'/\js A B k0 w (put5 w1 r x0 x1 x2 n x4)/\bO A' (put5 w1 r x0 x1 x2 n x4) sv its.length (an its):=by
 have hlow:=hd.ls.low;have d:r≠k0:=by omega
 have i:¬A' r:=fun h=>by
  rcases m r h with h|h
  .have:=l r h;omega
  .omega
 have hno:¬jW k0 W0 r:=fun h=>by have:=ho r h;omega
 have e1:w1.heap[r]?=W0.heap[r]?:=hf.keep r k d hno;have hc1:dY w1 r:=k.same e1;have f:¬jW k0 w1 r:=fun h=>by
  rcases hf.own r h with h|h
  .exact hno h
  .omega
 have c:∀ (W:Wj) (j:Nat) (x:Wx),¬jW k0 W r->¬jW k0 (W.setCell ⟨r,j,none⟩ x) r:=fun W j x h=>by
  rintro ⟨v,h1,h2⟩;exact h ⟨v,(cB (a:=⟨k0,4,none⟩) (bS _ _ _ _ (fun e=>d e.symm))).symm.trans h1,h2⟩
 have hset:∀b,b≠r->(put5 w1 r x0 x1 x2 n x4).heap[b]?=w1.heap[b]?:=fun b hb=>by
  unfold put5;rw [bS _ _ _ _ hb,bS _ _ _ _ hb,bS _ _ _ _ hb,bS _ _ _ _ hb,bS _ _ _ _ hb]
 refine ⟨fun b hb=>(m b hb).imp id fun h=>by have:=p.size;omega,?_,(js.left hk p).trans (o.trans ?_),bO.keep hrow fun b hb _=>⟨hb,hset b (fun e=>i (e▸hb))⟩⟩
 .unfold put5;exact ((((hd.other d i hc1 f (by omega)).other d i hc1.set (c _ _ _ f) (by omega)).other d i hc1.set.set (c _ _ _ (c _ _ _ f)) (by omega)).other d i hc1.set.set.set (c _ _ _ (c _ _ _ (c _ _ _ f))) (by omega)).other d i hc1.set.set.set.set (c _ _ _ (c _ _ _ (c _ _ _ (c _ _ _ f)))) (by omega)
 .have hkk:=hset k0 (fun e=>d e.symm);exact ⟨rfl,by simp [put5],fun b h1 _ _=>hset b (by omega),fun b hb _=>hset b (fun e=>by have:=l b hb;omega),fun j _=>cB (a:=⟨k0,j,none⟩) hkk,fun j=>fB (a:=⟨k0,j,none⟩) hkk⟩
end
end
