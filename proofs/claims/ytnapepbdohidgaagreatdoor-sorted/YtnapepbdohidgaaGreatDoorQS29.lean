/- A part. -/
import Derived.Test.YtnapepbdohidgaaGreatDoorQS28
import Derived.OwnWalkIn
import Derived.Shelf.SlSortCmp.WholeK
import Derived.Shelf.SlSortCmp.NoneTotal
set_option maxHeartbeats 4000000
set_option maxRecDepth 100000
open Go renaming World->Wz,Value->Wq,Addr->Ww,undef->Wy
namespace Go.Proofs.Qw
section
open Go
open Go.Conc Go.ConcX Go.ConcX.Gen Go.RowKit
theorem Yq.infoEnt:(Yq.prog.info? 137).map (fun i=>(i.zero,i.size,i.bytes))=some (some (.agg #[.string ⟨#[]⟩,.int .i64 0,.string ⟨#[]⟩,.bool false]),4,48):=by kernel_rfl
def cz (l:KVs):List (ByteArray×Ver):=l.flatMap fun x=>x.2.map fun v=>(⟨x.1.toArray⟩,v)
def ur (t:Nat)(X:Wz)(b:Nat):Prop:=∃v,X.cell? ⟨t,0,none⟩=some v/\v.ownBlock=some b
theorem ur.of {t:Nat}(X Y:Wz)(b:Nat)(h:Y.heap[t]?=X.heap[t]?):ur t Y b->ur t X b:=fun ⟨v,h1,h2⟩=>⟨v,(cB (a:=⟨t,0,none⟩) h).symm.trans h1,h2⟩
def iD (w:Wz)(root:Option Ww):Wz:=((w.alloc (.cells #[.slice none 0 0] 134)).alloc (.cells #[.pointer root] 56)).alloc (.cells #[.string ⟨#[]⟩] 9)
theorem cY (w:Wz)(root:Option Ww):(iD w root).heap.size=w.heap.size+3:=by simp only [iD,World.alloc,Array.size_push]
theorem qg (w:Wz)(root:Option Ww){b:Nat}(h:b<w.heap.size):(iD w root).heap[b]?=w.heap[b]?:=by
 simp only [iD,World.alloc,gP,Array.size_push]
 repeat rw [if_neg (by omega)]
theorem qh (w:Wz)(root:Option Ww)(i:Nat)(h:i<3):(iD w root).heap[w.heap.size+i]?=(#[.cells #[.slice none 0 0] 134,.cells #[.pointer root] 56,.cells #[.string ⟨#[]⟩] 9]:Array Obj)[i]?:=by
 simp only [iD,World.alloc,gP,Array.size_push];rcases i with - | - | - |i;all_goals first|omega|skip
 all_goals
  repeat rw [if_neg (by omega)]
  simp
structure ql (t:Nat)(w3:Wz)(E:List (ByteArray×Ver))(X:Wz):Prop where
 os:X.os=w3.os
 size:w3.heap.size<=X.heap.size
 block:∀b,b<w3.heap.size->b≠t->X.heap[b]?=w3.heap[b]?
 row:∃v,X.heap[t]?=some (.cells #[v] 134)/\X.ownsRow w3.heap.size 137 4 v E.length (ee E)
section
variable {t:Nat} {w3 X Y:Wz} {E:List (ByteArray×Ver)}
theorem ql.own (I:ql t w3 E X)(b:Nat)(h:ur t X b):w3.heap.size<=b/\∃o:Obj,X.heap[b]?=some o/\o.isCells=true:=by
 obtain ⟨v,h1,h2⟩:=I.row;obtain ⟨v',h3,h4⟩:=h;have e:X.cell? ⟨t,0,none⟩=some v:=by simp [World.cell?,h1]
 rw [e] at h3;cases h3;refine ⟨(h2.lt b h4).1,?_⟩;rcases h2.2 with ⟨rfl,-⟩|⟨g,cap,cur,rfl,-,hr,-⟩
 .simp [Value.ownBlock] at h4
 .simp only [Value.ownBlock,oI] at h4;subst h4;exact ⟨_,hr,rfl⟩
theorem ql.stable (ht:t<w3.heap.size)(I:ql t w3 E X)(h1:∀b,b<w3.heap.size->Y.heap[b]?=X.heap[b]?)(h2:∀b,ur t X b->Y.heap[b]?=X.heap[b]?)(h3:X.heap.size<=Y.heap.size)(h4:Y.os=X.os):ql t w3 E Y:=by
 obtain ⟨v,r1,r2⟩:=I.row;exact ⟨h4.trans I.os,lT I.size h3,fun b hb hne=>(h1 b hb).trans (I.block b hb hne),v,(h1 t ht).trans r1,ed r2 fun g hg=>h2 g ⟨v,by simp [World.cell?,r1],hg⟩⟩
theorem ql.push (ht:t<w3.heap.size)(I:ql t w3 E X){v v':Wq}{w2:Wz}{k:ByteArray}{x:Ver}(hr:X.heap[t]?=some (.cells #[v] 134))(ho:w2.ownsRow w3.heap.size 137 4 v' (E.length+1) (ee E++sM k x))(hG:Gb X v w2 v'):
  ql t w3 (E++[(k,x)]) (w2.setCell ⟨t,0,none⟩ v')/\dY (ur t) t t X (w2.setCell ⟨t,0,none⟩ v'):=by
 obtain ⟨v0,r1,r2⟩:=I.row;rw [hr] at r1;cases r1;have hcell:X.cell? ⟨t,0,none⟩=some v:=by simp [World.cell?,hr]
 have hlow:∀g,v.ownBlock=some g->w3.heap.size<=g:=fun g hg=>(r2.lt g hg).1
 have hX:=I.size;have hne:∀b,b<X.heap.size->v.ownBlock≠some b->w2.heap[b]?=X.heap[b]?:=fun b hb hn=>hG.grown.block b hb (fun e=>hn e.symm)
 have hnt:v.ownBlock≠some t:=fun e=>by have:=hlow t e;omega
 have ht2:w2.heap[t]?=some (.cells #[v] 134):=(hne t (by omega) hnt).trans hr;have hset:∀b,b≠t->(w2.setCell ⟨t,0,none⟩ v').heap[b]?=w2.heap[b]?:=fun b hb=>bS _ _ _ _ hb
 have hst:(w2.setCell ⟨t,0,none⟩ v').heap[t]?=some (.cells #[v'] 134):=by
  obtain ⟨h1,h2⟩:=eS ht2;show (w2.heap.modify t _)[t]?=_;rw [eG (by rw [Array.size_modify];exact h1),Array.getElem_modify_self,h2];rfl
 have hsz:(w2.setCell ⟨t,0,none⟩ v').heap.size=w2.heap.size:=by simp
 have hos:(w2.setCell ⟨t,0,none⟩ v').os=X.os:=hG.grown.os;have hg:=hG.grown.size;refine ⟨⟨hos.trans I.os,by omega,fun b hb hbt=>?_,v',hst,?_⟩,by omega,hos,fun b hb=>?_,fun b hb hbt _ hn=>?_⟩
 .rw [hset b hbt,hne b (by omega) (fun e=>by have:=hlow b e;omega)];exact I.block b hb hbt
 .have e1:ee (E++[(k,x)])=ee E++sM k x:=by simp [ee]
  rw [e1,lP,lS];exact ed ho fun g hg=>hset g (fun e=>by have:=(ho.lt g hg).1;omega)
 .obtain ⟨v1,h1,h2⟩:=hb;have e:(w2.setCell ⟨t,0,none⟩ v').cell? ⟨t,0,none⟩=some v':=by simp [World.cell?,hst]
  rw [e] at h1;cases h1;rcases hG.at_ b h2 with h|h
  .exact .inl ⟨v,hcell,h⟩
  .exact .inr h
 .rw [hset b hbt,hne b hb (fun e=>hn ⟨v,hcell,e⟩)]
end
theorem lJ {F:Fence}{nF:Nat}{P:Program}(w:Wz){ops:Array Oper}{rest:List Oper}{o:Oper}{a:Act}{Q:Exit->Act->Wz->Prop}
  (hg:o.guard=none) (s x:Operand) (t:TypeId) (hop:o.op=Op.call {callee:=Callee.builtin Builtin.append,args:=#[s,x],argTypes:=#[t,t]})
  (base:Nat) (e:TypeId) (i:TypeInfo) (z:Wq) (size bytes:Nat) (h1:P.underlying t=some (.slice e)) (h2:P.info? e=some i) (h3:i.zero=some z) (h4:i.size=size) (h5:i.bytes=bytes) (h6:z.cells.size=size) (h7:0<size)
  (v:Wq) (k:Nat) (xs:List Wq) (hs:a.eval s=v) (hown:w.ownsRow base e size v k xs) (ad:Ww) (m c:Nat) (news:List Wq) (hx:a.eval x=.slice (some ad) m c) (hn:news.length=m * size)
  (hc:∀j u,news[j]?=some u->w.cell? (ad.add j)=some u) (h1c:∀u∈news,u.oneCell'=true) (b1:k+m<=maxLen) (b2:(k+m) * bytes<=140737488355328) (b3:base<=w.heap.size)
  (hK:∀v' w',w'.ownsRow base e size v' (k+m) (xs++news)->Gb w v w' v'->wpListIn F nF P ops Q rest (a.put o.dst v') w'):
  wpListIn F nF P ops Q (o::rest) a w:=by
 refine wpListIn_plain hg fun K hK'=>?_
 obtain ⟨v',w',hrun,r1,r2,r3⟩:=jg (P:=P) w base t o.type e i z size bytes h1 h2 h3 h4 h5 h6 h7 v k xs hown ad m c news hn hc h1c b1 b2 b3;unfold Oper.wpIn;refine ⟨?_,?_⟩
 .simp [Oper.about,hop,resolve,Target.leads,Sem.run_pure]
 .rw [Oper.semAt_plain F _ _ (by rw [hop];intro c hc';cases hc')];simp [execOp,hop,resolve,invoke,builtin,hs,hx,hrun,Result.andThen];exact hK' _ _ (hK v' w' r1 ⟨r2,r3⟩)
noncomputable def Ai:Code:=xd (cIn (bM (fD (bM (bM (bm Tryz.f76))))))
def eU (w:Wz)(k0:Nat)(root:Option Ww)(x4 x5 x13 x14:Wq):Array Wq:=
 #[.pointer (some ⟨k0,0,none⟩),Wy,.slice none 0 0,.pointer (some ⟨w.heap.size,0,none⟩),x4,x5,Wy,Wy,.pointer (some ⟨k0,0,none⟩),.pointer (some ⟨k0,0,none⟩),.pointer (some ⟨k0,0,none⟩),
  .agg #[.pointer root],.func (.func 122) #[] #[ptr (w.heap.size+1),ptr (w.heap.size+2)],x13,x14,Wy,Wy,Wy,Wy,Wy,Wy,Wy,Wy,Wy,Wy,Wy,Wy,Wy,Wy,Wy,Wy]
theorem dY.refl (O:Wz->Nat->Prop)(c t:Nat)(W:Wz):dY O c t W W:=⟨lR _,rfl,fun _ h=>.inl h,fun _ _ _ _ _=>rfl⟩
theorem dY.trans {O:Wz->Nat->Prop}{c t:Nat}{W W' W'':Wz}(h:dY O c t W W')(k:dY O c t W' W''):dY O c t W W'':=⟨lT h.1 k.1,k.2.1.trans h.2.1,zl h.1 h.2.2.1 k.2.2.1,fun b h1 h2 h3 h4=>by
 have hb:b<W'.heap.size:=lL h1 h.1;have hx:∃o,W.heap[b]?=some o:=⟨_,eG h1⟩;obtain ⟨o,ho⟩:=hx;exact (k.2.2.2 b hb h2 h3 (rf h.2.2.1 ho h4)).trans (h.2.2.2 b h1 h2 h3 h4)⟩
theorem Ej (w:Wz)(a b c d:Wq)(T:TypeId)(j:Nat)(u:Wq)(h:[a,b,c,d][j]?=some u):(w.alloc (.cells #[a,b,c,d] T)).cell? ((⟨w.heap.size,0,none⟩:Ww).add j)=some u:=by
 rw [Addr.add_lit,zA,cA (w:=w) _ _ w.heap.size j rfl];rw [<-h];rcases j with - | - | - | - |j<;>rfl
theorem Ek (k:ByteArray)(v:Ver):∀u∈sM k v,u.oneCell'=true:=fun u hu=>by
 simp [sM] at hu;rcases hu with rfl|rfl|rfl|rfl<;>rfl
theorem xG (pre:KVs)(k:List UInt8)(h:List Ver):cz (pre++[(k,h)])=cz pre++h.map fun v=>(⟨k.toArray⟩,v):=by simp [cz]
section
attribute [local go_sem] Oper.semAt_some jJ
theorem Cs (k0:Nat)(root:Option Ww)(w:Wz)(A:Nat->Prop)(hA:∀b,A b->b<w.heap.size)(l:Nat)(pre:KVs)(k:List UInt8)(h:List Ver)(hv:Wq)(W:Wz)(hh:aU A (iD w root) hv h)(hne:h≠[])(hl:(cz pre).length+h.length<=1000000)(I:ql w.heap.size (iD w root) (cz pre) W):
  Ai.wpIn (wf (some l)) 0 Yq.prog (fun e _ W'=>e=.normal/\dY (ur w.heap.size) w.heap.size w.heap.size W W'/\ql w.heap.size (iD w root) (cz (pre++[(k,h)])) W') ⟨eU w k0 root (.string ⟨k.toArray⟩) hv (.string ⟨k.toArray⟩) hv,[]⟩ W:=by
 obtain ⟨Q,hQ⟩:∃Q:Exit->Act->Wz->Prop,Q=fun e _ W'=>e=.normal/\dY (ur w.heap.size) w.heap.size w.heap.size W W'/\ql w.heap.size (iD w root) (cz (pre++[(k,h)])) W':=⟨_,rfl⟩
 rw [<-hQ];have HQ:Hid (Q=fun e _ W'=>e=.normal/\dY (ur w.heap.size) w.heap.size w.heap.size W W'/\ql w.heap.size (iD w root) (cz (pre++[(k,h)])) W'):=hQ;clear hQ;obtain ⟨i0,hi0,hz0,hz1,hz2⟩:=info_parts Yq.infoEnt;obtain ⟨g,cap,rfl,hAg,hgl,hcs,-⟩:=hh.cells hne;have hgw:g<w.heap.size:=hA g hAg;obtain ⟨n,hn⟩:∃n,n=h.length:=⟨_,rfl⟩;have hszW:w.heap.size+3<=W.heap.size:=by have:=I.size;rwa [cY] at this
 have HI:Hid (ql w.heap.size (iD w root) (cz pre) W):=I;have HC:Hid (∀i (hi:i<h.length),(iD w root).cell? ⟨g,i * 3,none⟩=some (.int .i64 h[i].num)/\(iD w root).cell? ⟨g,i * 3+1,none⟩=some (.string h[i].body)/\(iD w root).cell? ⟨g,i * 3+2,none⟩=some (.bool h[i].mark)):=hcs;have HN:Hid (n=h.length/\(cz pre).length+h.length<=1000000/\g<w.heap.size):=⟨hn,hl,hgw⟩;rw [<-hn];clear I hcs hh hne hl hgw hgl hAg hn;unfold eU;dsimp only [Ai,xd,bm,Tryz.f76,cIn,fD,bM,nL,Option.getD]
 gi_wp2_with fail
 gi_loopw [17] (fun s17 wr=>∃i:Nat,i<=n/\s17=.int .i64 i/\ql w.heap.size (iD w root) (cz pre++(h.take i).map fun v=>(⟨k.toArray⟩,v)) wr/\dY (ur w.heap.size) w.heap.size w.heap.size W wr) (fun s17 _=>n-(intOf s17).toNat)
 case atStart=>exact ⟨0,Nat.zero_le _,rfl,by simpa using HI.out,dY.refl _ _ _ _⟩
 case round=>
  obtain ⟨i,hin,rfl,hE,hK⟩:=hrel;have HE:Hid (ql w.heap.size (iD w root) (cz pre++(h.take i).map fun v=>(⟨k.toArray⟩,v)) wr/\dY (ur w.heap.size) w.heap.size w.heap.size W wr):=⟨hE,hK⟩;by_cases hlt:i<n
  .obtain ⟨v,hrw,how⟩:=hE.row;obtain ⟨va,vc,rfl,-⟩:=ay how;have hih:i<h.length:=by rw [<-HN.out.1];exact hlt
   have hwr:w.heap.size+3<=wr.heap.size:=by have:=hE.size;rwa [cY] at this
   have hgb:wr.heap[g]?=(iD w root).heap[g]?:=hE.block g (by rw [cY];have:=HN.out.2.2;omega) (by have:=HN.out.2.2;omega);obtain ⟨q0,q1,q2⟩:=HC.out i hih;have c0:wr.cell? ⟨g,i * 3,none⟩=some (.int .i64 h[i].num):=(cB (a:=⟨g,i * 3,none⟩) hgb).trans q0;have c1:wr.cell? ⟨g,i * 3+1,none⟩=some (.string h[i].body):=(cB (a:=⟨g,i * 3+1,none⟩) hgb).trans q1;have c2:wr.cell? ⟨g,i * 3+2,none⟩=some (.bool h[i].mark):=(cB (a:=⟨g,i * 3+2,none⟩) hgb).trans q2;have d0:wr.cell? ⟨w.heap.size,0,none⟩=some (.slice va (cz pre++(h.take i).map fun v=>((⟨k.toArray⟩:ByteArray),v)).length vc):=by simp [World.cell?,hrw]
   have hlen:(cz pre++(h.take i).map fun v=>((⟨k.toArray⟩:ByteArray),v)).length=(cz pre).length+i:=by rw [lP,lM,tL,Nat.min_eq_left (Nat.le_of_lt hih)]
   have htk:cz pre++(h.take (i+1)).map (fun v=>((⟨k.toArray⟩:ByteArray),v))=(cz pre++(h.take i).map fun v=>((⟨k.toArray⟩:ByteArray),v))++[(⟨k.toArray⟩,h[i])]:=by
    rw [tS hih,List.map_append,pA];rfl
   have hle:(cz pre++(h.take i).map fun v=>((⟨k.toArray⟩:ByteArray),v)).length+1<=1000000:=by have:=HN.out;omega
   clear hlen;have hi6:i+1<=1000000:=by have:=HN.out;omega
   generalize hEE:(cz pre++(h.take i).map fun v=>((⟨k.toArray⟩:ByteArray),v))=EE at *;have HT:Hid (cz pre++(h.take (i+1)).map (fun v=>((⟨k.toArray⟩:ByteArray),v))=EE++[(⟨k.toArray⟩,h[i])]):=htk;have HR:Hid (wr.heap[w.heap.size]?=some (.cells #[.slice va EE.length vc] 134)/\wr.ownsRow (iD w root).heap.size 137 4 (.slice va EE.length vc) EE.length (ee EE)):=⟨hrw,how⟩;clear htk hrw how hE hK hEE q0 q1 q2 hgb;generalize h[i]=vv at *;obtain ⟨num,body,mark⟩:=vv;simp only at c0 c1 c2;have d0':=an d0;have HNW:Hid (∀ (B:Obj) (j:Nat) (u:Wq),(sM ⟨k.toArray⟩ ⟨num,body,mark⟩)[j]?=some u->((wr.alloc B).alloc (.cells #[.string ⟨k.toArray⟩,.int .i64 num,.string body,.bool mark] 137)).cell? ((⟨wr.heap.size+1,0,none⟩:Ww).add j)=some u):=fun B j u hj=>by
    have:=Ej (wr.alloc B) (.string ⟨k.toArray⟩) (.int .i64 num) (.string body) (.bool mark) 137 j u hj;simpa using this
   have HBX:Hid (∀ (B C:Obj) (w2:Wz) (v1:Wq),Gb ((wr.alloc B).alloc C) (.slice va EE.length vc) w2 v1->w2.cell? ⟨w.heap.size,0,none⟩=some (.slice va EE.length vc)/\w2.frozen? ⟨w.heap.size,0,none⟩=false):=fun B C w2 v1 hg=>by
    have hG:=hg.alloc.alloc;have e:w2.heap[w.heap.size]?=some (.cells #[.slice va EE.length vc] 134):=(hG.grown.block _ (by omega) (fun e=>by have:=(HR.out.2.lt _ e.symm).1;rw [cY] at this;omega)).trans HR.out.1;exact ⟨by simp [World.cell?,e],by simp [World.frozen?,e]⟩
   gi_wp2_with (gi_at_builtin;refine lJ _ rfl _ _ 134 rfl (iD w root).heap.size 137 i0 _ 4 48 (Yq.u Tryz.underlying134) hi0 hz0 hz1 hz2 rfl (by decide) _ EE.length (ee EE) rfl ((HR.out.2.alloc _).alloc _) ⟨wr.heap.size+1,0,none⟩ 1 1 (sM ⟨k.toArray⟩ ⟨num,body,mark⟩) rfl rfl (HNW.out _) (Ek _ _) (by simp only [maxLen];omega) (by omega) (by rw [cY];simp;omega) ?_;intro v1 w2 ho2 hg2;obtain ⟨va1,vc1,rfl,-⟩:=ay ho2;obtain ⟨b0,b1⟩:=HBX.out _ _ _ _ hg2)
   obtain ⟨p1,p2⟩:=HE.out.1.push (by rw [cY];omega) HR.out.1 ho2 hg2.alloc.alloc;exact ⟨⟨i+1,by omega,by go_num,by rw [HT.out];exact p1,HE.out.2.trans p2⟩,by simp [intOf];omega⟩
  .have hie:i=n:=by omega
   subst hie
   gi_wp2_with fail
   rw [HQ.out];refine ⟨rfl,HE.out.2,?_⟩;have:=HE.out.1;rw [tO (by rw [<-HN.out.1];exact lR _)] at this;rw [xG];exact this
end
end
end Go.Proofs.Qw
namespace Go.Proofs
section
open Go.Shelf Go.RowKit Go.Lib Go.Sort
def Yq.sortE_ren:Go.Shelf.Ren:=⟨fun| 6=>102| 15=>125| 14=>124| 28=>150| 29=>151| 20=>142| 21=>143| 22=>144| 23=>145| 24=>146| 25=>147| 26=>148| 27=>149| 46=>159| 47=>160| 48=>161| 49=>162| 50=>163| 57=>171|n=>n,fun| 22=>134| 24=>137| 25=>173| 3=>3| 39=>199| 0=>0| 53=>222| 55=>57| 4=>4| 46=>216| 45=>215| 50=>160| 5=>5| 9=>9| 66=>231| 70=>235| 76=>243| 77=>244|n=>n,fun n=>n⟩
theorem Yq.sortE:SlLaysF0.n6 Yq.prog Yq.sortE_ren:={
 mixed:=by kernel_rfl
 f6 := Exists.intro "slices.SortFunc[[]shelf/store.entry,shelf/store.entry]" ⟨by decide, (Yq.nq Tryz.func102).trans (congrArg some (by kernel_rfl))⟩
 f14 := Exists.intro "slices.pdqsortCmpFunc[shelf/store.entry]" ⟨by decide, (Yq.nq Tryz.func124).trans (congrArg some (by kernel_rfl))⟩
 f15:=(Yq.nq Tryz.func125).trans (congrArg some (by kernel_rfl))
 f20 := Exists.intro "slices.insertionSortCmpFunc[shelf/store.entry]" ⟨by decide, (Yq.nq Tryz.func142).trans (congrArg some (by kernel_rfl))⟩
 f21 := Exists.intro "slices.heapSortCmpFunc[shelf/store.entry]" ⟨by decide, (Yq.nq Tryz.func143).trans (congrArg some (by kernel_rfl))⟩
 f22 := Exists.intro "slices.breakPatternsCmpFunc[shelf/store.entry]" ⟨by decide, (Yq.nq Tryz.func144).trans (congrArg some (by kernel_rfl))⟩
 f23 := Exists.intro "slices.choosePivotCmpFunc[shelf/store.entry]" ⟨by decide, (Yq.nq Tryz.func145).trans (congrArg some (by kernel_rfl))⟩
 f24 := Exists.intro "slices.reverseRangeCmpFunc[shelf/store.entry]" ⟨by decide, (Yq.nq Tryz.func146).trans (congrArg some (by kernel_rfl))⟩
 f25 := Exists.intro "slices.partialInsertionSortCmpFunc[shelf/store.entry]" ⟨by decide, (Yq.nq Tryz.func147).trans (congrArg some (by kernel_rfl))⟩
 f26 := Exists.intro "slices.partitionEqualCmpFunc[shelf/store.entry]" ⟨by decide, (Yq.nq Tryz.func148).trans (congrArg some (by kernel_rfl))⟩
 f27 := Exists.intro "slices.partitionCmpFunc[shelf/store.entry]" ⟨by decide, (Yq.nq Tryz.func149).trans (congrArg some (by kernel_rfl))⟩
 f28:=(Yq.nq Tryz.func150).trans (congrArg some (by kernel_rfl))
 f29:=(Yq.nq Tryz.func151).trans (congrArg some (by kernel_rfl))
 f46 := Exists.intro "slices.siftDownCmpFunc[shelf/store.entry]" ⟨by decide, (Yq.nq Tryz.func159).trans (congrArg some (by kernel_rfl))⟩
 f47:=(Yq.nq Tryz.func160).trans (congrArg some (by kernel_rfl))
 f48:=(Yq.nq Tryz.func161).trans (congrArg some (by kernel_rfl))
 f49 := Exists.intro "slices.medianAdjacentCmpFunc[shelf/store.entry]" ⟨by decide, (Yq.nq Tryz.func162).trans (congrArg some (by kernel_rfl))⟩
 f50 := Exists.intro "slices.medianCmpFunc[shelf/store.entry]" ⟨by decide, (Yq.nq Tryz.func163).trans (congrArg some (by kernel_rfl))⟩
 f57 := Exists.intro "slices.order2CmpFunc[shelf/store.entry]" ⟨by decide, (Yq.nq Tryz.func171).trans (congrArg some (by kernel_rfl))⟩
 t0:=(Yq.u Tryz.underlying0)
 a0:=(fun w=>Yq.a (Tryz.isAgg0 w))
 z0:=(fun w=>Yq.s (Tryz.sizeOf0 w))
 v0:=(fun w=>Yq.z (Tryz.zeroValue0 w))
 t3:=(Yq.u Tryz.underlying3)
 a3:=(fun w=>Yq.a (Tryz.isAgg3 w))
 z3:=(fun w=>Yq.s (Tryz.sizeOf3 w))
 v3:=(fun w=>Yq.z (Tryz.zeroValue3 w))
 t4:=(Yq.u Tryz.underlying4)
 a4:=(fun w=>Yq.a (Tryz.isAgg4 w))
 z4:=(fun w=>Yq.s (Tryz.sizeOf4 w))
 v4:=(fun w=>Yq.z (Tryz.zeroValue4 w))
 t5:=(Yq.u Tryz.underlying5)
 a5:=(fun w=>Yq.a (Tryz.isAgg5 w))
 z5:=(fun w=>Yq.s (Tryz.sizeOf5 w))
 v5:=(fun w=>Yq.z (Tryz.zeroValue5 w))
 t9:=(Yq.u Tryz.underlying9)
 a9:=(fun w=>Yq.a (Tryz.isAgg9 w))
 z9:=(fun w=>Yq.s (Tryz.sizeOf9 w))
 v9:=(fun w=>Yq.z (Tryz.zeroValue9 w))
 t22:=(Yq.u Tryz.underlying134)
 a22:=(fun w=>Yq.a (Tryz.isAgg134 w))
 z22:=(fun w=>Yq.s (Tryz.sizeOf134 w))
 v22:=(fun w=>Yq.z (Tryz.zeroValue134 w))
 t25:=(Yq.u Tryz.underlying173)
 a25:=(fun w=>Yq.a (Tryz.isAgg173 w))
 z25:=(fun w=>Yq.s (Tryz.sizeOf173 w))
 v25:=(fun w=>Yq.z (Tryz.zeroValue173 w))
 t39:=(Yq.u Tryz.underlying199)
 a39:=(fun w=>Yq.a (Tryz.isAgg199 w))
 z39:=(fun w=>Yq.s (Tryz.sizeOf199 w))
 v39:=(fun w=>Yq.z (Tryz.zeroValue199 w))
 t45:=(Yq.u Tryz.underlying215)
 a45:=(fun w=>Yq.a (Tryz.isAgg215 w))
 z45:=(fun w=>Yq.s (Tryz.sizeOf215 w))
 v45:=(fun w=>Yq.z (Tryz.zeroValue215 w))
 t46:=(Yq.u Tryz.underlying216)
 a46:=(fun w=>Yq.a (Tryz.isAgg216 w))
 z46:=(fun w=>Yq.s (Tryz.sizeOf216 w))
 v46:=(fun w=>Yq.z (Tryz.zeroValue216 w))
 t50:=(Yq.u Tryz.underlying160)
 a50:=(fun w=>Yq.a (Tryz.isAgg160 w))
 z50:=(fun w=>Yq.s (Tryz.sizeOf160 w))
 v50:=(fun w=>Yq.z (Tryz.zeroValue160 w))
 t53:=(Yq.u Tryz.underlying222)
 a53:=(fun w=>Yq.a (Tryz.isAgg222 w))
 z53:=(fun w=>Yq.s (Tryz.sizeOf222 w))
 v53:=(fun w=>Yq.z (Tryz.zeroValue222 w))
 t55:=(Yq.u Tryz.underlying57)
 a55:=(fun w=>Yq.a (Tryz.isAgg57 w))
 z55:=(fun w=>Yq.s (Tryz.sizeOf57 w))
 v55:=(fun w=>Yq.z (Tryz.zeroValue57 w))
 t66:=(Yq.u Tryz.underlying231)
 a66:=(fun w=>Yq.a (Tryz.isAgg231 w))
 z66:=(fun w=>Yq.s (Tryz.sizeOf231 w))
 v66:=(fun w=>Yq.z (Tryz.zeroValue231 w))
 t70:=(Yq.u Tryz.underlying235)
 a70:=(fun w=>Yq.a (Tryz.isAgg235 w))
 z70:=(fun w=>Yq.s (Tryz.sizeOf235 w))
 v70:=(fun w=>Yq.z (Tryz.zeroValue235 w))
 t76:=(Yq.u Tryz.underlying243)
 a76:=(fun w=>Yq.a (Tryz.isAgg243 w))
 z76:=(fun w=>Yq.s (Tryz.sizeOf243 w))
 v76:=(fun w=>Yq.z (Tryz.zeroValue243 w))
 t77:=(Yq.u Tryz.underlying244)
 a77:=(fun w=>Yq.a (Tryz.isAgg244 w))
 z77:=(fun w=>Yq.s (Tryz.sizeOf244 w))
 v77:=(fun w=>Yq.z (Tryz.zeroValue244 w))}
end
end Go.Proofs
namespace Go.Proofs.Qw
section
open Go
open Go.Shelf Go.RowKit Go.Sort
@[reducible] def CV:Inhabited (ByteArray×Ver):=⟨(⟨#[]⟩,⟨0,⟨#[]⟩,false⟩)⟩
def Aj (e:ByteArray×Ver):List Wq:=sM e.1 e.2
def cfE (x y:ByteArray×Ver):Int:=Ey x.2.num y.2.num
def fT (E:List (ByteArray×Ver)):List (ByteArray×Ver):=(@Sort.pdq _ CV (ltOf cfE) E.toArray 0 E.length (Lib.bitLen E.length) true true).toList
theorem ltE (x y:ByteArray×Ver):ltOf cfE x y=decide (x.2.num<y.2.num):=by
 unfold ltOf cfE Ey;by_cases h1:x.2.num<y.2.num
 .simp [h1]
 .by_cases h2:y.2.num<x.2.num<;>simp [h1,h2]
theorem FR:SWO (ltOf cfE) where
 irrefl x:=by rw [ltE];simp
 trans x y z h1 h2:=by rw [ltE] at *;simp at *;omega
 ntrans x y z h1 h2:=by rw [ltE] at *;simp at *;omega
theorem us (E:List (ByteArray×Ver)):@PermIn _ CV 0 E.length E.toArray (fT E).toArray/\@SortedIn _ CV (ltOf cfE) 0 E.length (fT E).toArray:=by
 letI:=CV
 have h:=pdq_sorts (ltOf cfE) FR E.toArray 0 E.length (Lib.bitLen E.length) true true (Nat.zero_le _) (by simp) (Or.inl rfl);unfold fT;rw [Array.toArray_toList];exact h
theorem oL (E:List (ByteArray×Ver)):(fT E).Perm E:=by
 letI:=CV
 have h:=(us E).1;have h1:(fT E).length=E.length:=by simpa using h.1
 have h2:=h.2.2;rw [List.extract_toArray,List.extract_toArray] at h2;have h3:List.take E.length (fT E)=fT E:=tO (by omega);simpa [List.extract,h3] using h2
theorem io (E:List (ByteArray×Ver)):(fT E).length=E.length:=(oL E).length_eq
theorem Fb (E:List (ByteArray×Ver)):(@flatK _ CV Aj 4 E.toArray).toList=ee E:=by
 letI:=CV
 refine List.ext_getElem? fun j=>?_
 by_cases hj:j<E.length * 4
 .have hq:j / 4<E.length:=by omega
  have e:j=j / 4 * 4+j % 4:=by omega
  have h1:(flatK Aj 4 E.toArray).toList[j]?=some (flatK Aj 4 E.toArray)[j]!:=by
   rw [gT,eG (by simpa using hj),getElem!_pos _ j (by simpa using hj)]
  rw [h1,get_flatK _ _ _ _ (by simpa using hj)];have h2:=dV 4 (fun e:ByteArray×Ver=>sM e.1 e.2) (fun _=>rfl) E (j / 4) (j % 4) hq (by omega);rw [<-e] at h2;show _=(E.flatMap fun e=>sM e.1 e.2)[j]?;have a0:E.toArray[j / 4]! =E[j / 4]:=by rw [getElem!_pos _ _ (by simpa using hq)];simp
  rw [h2,a0];have hm:j % 4=0\/j % 4=1\/j % 4=2\/j % 4=3:=by omega
  rcases hm with h|h|h|h<;>rw [h]<;>rfl
 .rw [List.getElem?_eq_none (by simp;omega),List.getElem?_eq_none (by rw [show (ee E).length=E.length * 4 from ew 4 _ (fun _=>rfl) E];omega)]
theorem El (base:Nat)(E:List (ByteArray×Ver))(v:Wq)(w:Wz)(h:w.ownsRow base 137 4 v E.length (ee E))(hE:E.length<=1000000):
  Calls Yq.prog 102 #[v,.func (.func 103) #[] #[]] w fun e w'=>e=.returned (.tuple #[])/\w'.ownsRow base 137 4 v E.length (ee (fT E))/\(∀b,b<w.heap.size->v.ownBlock≠some b->w'.heap[b]?=w.heap[b]?)/\w.heap.size<=w'.heap.size/\w'.os=w.os:=by
 letI:=CV
 rcases h.2 with ⟨rfl,h0⟩|⟨g,cap,cur,rfl,hb,hr,hle,hcap,hsz,htake⟩
 .have hcon:=AnyF.slices_SortFunc_none Yq.sortE none 0 (.func (.func 103) #[] #[]) w;change Calls Yq.prog 102 _ _ _ at hcon;refine hcon.mono ?_;rintro e w' ⟨rfl,rfl⟩;have e1:E=[]:=List.length_eq_zero_iff.1 h0;subst e1;have e2:fT []=[]:=List.length_eq_zero_iff.1 (io []);refine ⟨rfl,?_,fun _ _ _=>rfl,lR _,rfl⟩;rw [e2];exact h
 .have eg:∀args w,(callFunc 103 args).run Yq.prog w=.ok (.enter 103 args) w:=fun args w=>by go_simp
  have hlt:g<w.heap.size:=(eS hr).1;have hcell:∀j,w.cell? ⟨g,j,none⟩=cur[j]?:=fun j=>cell_of_row w g j cur 137 (0,0) hr
  have hx:(ee E).length=E.length * 4:=ew 4 _ (fun _=>rfl) E;have hH:HoldsK Aj 4 w g 0 E.toArray:=by
   intro j hj;have hj':j<E.length * 4:=by simpa using hj
   have e1:(flatK Aj 4 E.toArray)[j]?=(ee E)[j]?:=by rw [<-Fb,gT]
   have e2:cur[j]?=(ee E)[j]?:=by
    rw [<-htake,List.getElem?_take_of_lt hj',gT]
   refine ⟨?_,?_⟩
   .rw [zA,hcell,e2,<-e1,getElem!_pos _ j hj,eG hj];rfl
   .rw [zA];simp [World.frozen?,hr]
  have hcmp:CmpLays Yq.prog 103 #[] Aj 4 cfE g 0 E.toArray.size w:=fun _ _ _ _ x y=>by
   refine (Ab x.1 y.1 x.2 y.2 _).mono ?_;rintro e w' ⟨rfl,rfl⟩;exact ⟨rfl,0,_,by rw [alloc_eq_grow,alloc_eq_grow,grow_grow];rfl⟩
  have hcon:=AnyQ.slices_SortFunc_eq Yq.sortE 4 (fun w=>Yq.a (Tryz.isAgg137 w)) (fun w=>Yq.s (Tryz.sizeOf137 w)) Aj (fun _=>rfl) (fun x v hv=>by simp [Aj,sM] at hv;rcases hv with rfl|rfl|rfl|rfl<;>rfl) cfE FR 103 #[] g 0 cap E.toArray w eg hcmp hH hlt (by simp;omega);change Calls Yq.prog 102 _ _ _ at hcon;have es:E.toArray.size=E.length:=by simp
  rw [es] at hcon;refine hcon.mono ?_;rintro e w' ⟨rfl,m,os,rfl⟩;have hd:(pdq (ltOf cfE) E.toArray 0 E.length (Lib.bitLen E.length) true true)=(fT E).toArray:=by unfold fT;rw [Array.toArray_toList]
  rw [hd];have hrow:(sortWorldK Aj 4 w g 0 m (fT E).toArray os).heap[g]?=some (.cells (putCells id 0 (flatK Aj 4 (fT E).toArray) cur) 137 (0,0)):=by
   show ((w.heap.modify g _)++os)[g]?=_;rw [Array.getElem?_append_left (by rw [Array.size_modify];exact hlt),eG (by rw [Array.size_modify];exact hlt),Array.getElem_modify_self];obtain ⟨h1,h2⟩:=eS hr;rw [h2];rfl
  have hl:(ee (fT E)).length=E.length * 4:=by rw [<-io E];exact ew 4 _ (fun _=>rfl) _
  refine ⟨rfl,⟨hl,.inr ⟨g,cap,_,rfl,hb,hrow,hle,hcap,by simp [putCells,hsz],?_⟩⟩,fun b hb' hne=>?_,?_,rfl⟩
  .refine List.ext_getElem? fun j=>?_
   by_cases hj:j<E.length * 4
   .have hjc:j<cur.size:=by rw [hsz];exact lL hj (Nat.mul_le_mul_right 4 hle)
    have hj2:j<(flatK Aj 4 (fT E).toArray).size:=by simp [io,hj]
    rw [List.getElem?_take_of_lt hj,gT,putCells,Array.getElem?_mapIdx,eG hjc,Option.map_some,if_pos ⟨Nat.zero_le _,by omega⟩,<-Fb,gT,Nat.sub_zero,getElem!_pos _ j hj2,eG hj2];rfl
   .rw [List.getElem?_eq_none (by simp;omega),List.getElem?_eq_none (by omega)]
  .show ((w.heap.modify g _)++os)[b]?=_;rw [Array.getElem?_append_left (by rw [Array.size_modify];exact hb'),Array.getElem?_modify,if_neg (fun e=>hne (by rw [e];rfl))]
  .show w.heap.size<=((w.heap.modify g _)++os).size;rw [Array.size_append,Array.size_modify];omega
end
section
open Go
open Go.Conc Go.ConcX Go.ConcX.Gen Go.RowKit
theorem nE (l:KVs):(cz l).length=fV l:=by
 simp [cz,fV,List.length_flatMap]
section
attribute [local go_sem] Oper.semAt_some jJ
theorem xH (k0:Nat)(root:Option Ww)(f:List UInt8->List Ver)(w:Wz)(c0:w.cell? ⟨k0,0,none⟩=some (.pointer root))(hT:rH w root f)(hsum:fV (bI f [])<=1000):
  Calls Yq.prog 76 #[.pointer (some ⟨k0,0,none⟩)] w fun e w'=>∃v,e=.returned v/\w'.ownsRow w.heap.size 137 4 v (fT (cz (bI f []))).length (ee (fT (cz (bI f []))))/\aj w w':=by
 obtain ⟨total,htot⟩:∃total,bI f []=total:=⟨_,rfl⟩;have hsome:∀x∈total,x.2≠[]:=by rw [<-htot];exact fR _ _ _
 have hA:∀b,cn w b->b<w.heap.size:=fun b hb=>hb.lt
 have hN3:ai (cn w) 41 (iD w root) root f:=ai.keep (fun b hb hlt=>⟨hb,qg w root hlt⟩) 41 root f hT;rw [htot] at hsum ⊢;have hI0:ql w.heap.size (iD w root) (cz []) (iD w root):=⟨rfl,lR _,fun _ _ _=>rfl,_,qh w root 0 (by omega),World.ownsRow_nil _ _ _ _⟩;refine (callsIn_wide (n:=0)).1 (callsIn_of_wp_marks (F:=Fence.wide) (Yq.nq Tryz.func76) rfl trivial ?_);refine (wpIn_wide (n:=0)).2 ?_;generalize hQ:bodyPostM Fence.wide 0 Yq.prog Tryz.f76 _=Q;simp only [Tryz.ntmps76,lZ,lC,lN,Nat.reduceAdd,Nat.reduceSub,Array.replicate_succ,Array.replicate_zero,List.push_toArray,List.append_toArray,List.nil_append,List.cons_append];have HQ:Hid (bodyPostM Fence.wide 0 Yq.prog Tryz.f76 _=Q):=hQ;have HX:Hid (ai (cn w) 41 (iD w root) root f/\ql w.heap.size (iD w root) (cz []) (iD w root)/\(∀x∈total,x.2≠[])/\fV total<=1000):=⟨hN3,hI0,hsome,hsum⟩;have c0':=an c0;clear hQ hN3 hI0 hsome hT hsum;go_wp2_with (go_at_call 101;refine (zC root _ _).mono ?_;rintro e w6 ⟨rfl,rfl⟩)
 rename_i K1 hK1;refine wpIn_wide.1 (show Code.wpIn (wf none) 0 Yq.prog _ (Exit.inBlock 0 (Exit.then K1 Q)) ⟨eU w k0 root Wy Wy Wy Wy,[]⟩ (iD w root) from ?_);obtain ⟨hN3,hI0,hsome,hsum⟩:=HX.out;have ht3:w.heap.size<(iD w root).heap.size:=by rw [cY];omega
 refine ri (α:=List UInt8×List Ver) (β:=List UInt8×List Ver×Wq) (encs:=fun x=>#[.string ⟨x.1.toArray⟩,x.2.2]) (gf:=122) (lb:=#[ptr (w.heap.size+1),ptr (w.heap.size+2)]) (fun x=>(x.1,x.2.1)) rfl (fun args wx=>by go_simp) (fun _=>rfl) w.heap.size w.heap.size ht3 (ur w.heap.size) ur.of
  (fun pre X=>ql w.heap.size (iD w root) (cz pre) X) (fun pre x=>pre++[(x.1,x.2.1)] <+:total/\aU (cn w) (iD w root) x.2.2 x.2.1/\x.2.1≠[]) total (fun pre X b I h=>I.own b h) (fun pre X Y I h1 h2 h3 h4=>I.stable ht3 h1 h2 h3 h4) (fun pre X I=>⟨.inl rfl,.inl rfl⟩) hI0
  (fun x=>⟨eU w k0 root (.string ⟨x.1.toArray⟩) x.2.2 (.string ⟨x.1.toArray⟩) x.2.2,[]⟩) ?call ?assign ?body ?done
 case call=>
  intro l J W hW1 hW2 hob hst hsz hy hJ0;have C:pC (cn w) (iD w root) ((iD w root).heap.size+2) w.heap.size l (ur w.heap.size) total J:=⟨fun b hb=>by
    have h1:=hb.lt;obtain ⟨o,h3,h4⟩:=hb;exact ⟨by rw [cY];omega,by omega,o,(qg w root h1).trans h3,h4⟩,by omega,ur.of,hob,hst,hsz,fun pre k h hv X h1 h2 h3 h4=>hy pre (k,h,hv) X ⟨h1,h2,h3⟩ h4⟩
  exact ve C root f ⟨#[]⟩ W (w.heap.size+1) (w.heap.size+2) hN3 htot.symm (fun b hb=>hW2 b (by have:=hb.lt;rw [cY];omega))
   (by rw [cB (a:=⟨w.heap.size+1,0,none⟩) (hW2 _ (by rw [cY];show w.heap.size+1<_;omega))];simp [World.cell?,qh w root 1 (by omega)])
   (by rw [cB (a:=⟨w.heap.size+2,0,none⟩) (hW2 _ (by rw [cY];show w.heap.size+2<_;omega))];simp [World.cell?,qh w root 2 (by omega)]) (by decide) hJ0
 case assign=>
  intro l x W K hK;obtain ⟨k,h,hv⟩:=x;have e:(#[13,14].zip #[Value.string ⟨k.toArray⟩,hv]).foldl (fun t x=>match x with|(p,v)=>t.setIfInBounds p v) (eU w k0 root Wy Wy Wy Wy)=eU w k0 root Wy Wy (.string ⟨k.toArray⟩) hv:=by
   simp [eU]
  show Code.wpIn _ _ _ _ _ ⟨(#[13,14].zip #[Value.string ⟨k.toArray⟩,hv]).foldl (fun t x=>match x with|(p,v)=>t.setIfInBounds p v) (eU w k0 root Wy Wy Wy Wy),[]⟩ _;rw [e];unfold eU;unfold eU at hK;gi_wp2;exact hK
 case body=>
  rintro l pre ⟨k,h,hv⟩ W ⟨h1,h2,h3⟩ I;have h5:(cz pre).length+h.length<=1000:=by
   obtain ⟨r,hr⟩:=h1;rw [<-hr] at hsum;rw [nE];simp only [fV,List.map_append,List.sum_append,List.map_cons,List.map_nil,List.sum_cons,List.sum_nil] at hsum ⊢;omega
  exact Cs k0 root w (cn w) hA l pre k h hv W h2 h3 (by omega) I
 case done=>
  intro D W hD I hK;obtain ⟨v,hrw,how⟩:=I.row;obtain ⟨va,vc,rfl,-⟩:=ay how;have hlen:(cz total).length<=1000:=by rw [nE];exact hsum
  have HS:=El (iD w root).heap.size (cz total) _ W how (by omega);have d0:W.cell? ⟨w.heap.size,0,none⟩=some (.slice va (cz total).length vc):=by simp [World.cell?,hrw]
  have HB:Hid (∀w':Wz,w'.ownsRow (iD w root).heap.size 137 4 (.slice va (cz total).length vc) (cz total).length (ee (fT (cz total)))->(∀b,b<W.heap.size->(Value.slice va (cz total).length vc).ownBlock≠some b->w'.heap[b]?=W.heap[b]?)->w'.cell? ⟨w.heap.size,0,none⟩=some (.slice va (cz total).length vc)/\w'.heap[D]?=some (.deferred (some []))):=fun w' ho hb=>by
   have hs:=I.size;refine ⟨?_,?_⟩
   .rw [cB (a:=⟨w.heap.size,0,none⟩) (hb w.heap.size (by omega) (fun e=>by have:=(how.lt _ e).1;omega))];exact d0
   .refine (hb D (eS hK).1 (fun e=>?_)).trans hK;obtain ⟨-,o,h1,h2⟩:=I.own D ⟨_,d0,e⟩;rw [hK] at h1;cases h1;cases h2
  show K1 _ _;refine hK1 _ _ ?_;unfold eU;clear hK1;go_wp2_with (go_at_call 102;refine HS.mono ?_;clear HS;rintro e w' ⟨rfl,o1,o2,o3,o4⟩;obtain ⟨p0,p1⟩:=HB.out w' o1 o2)
  have hQ:=HQ.out;subst hQ;refine ⟨by simp,.inl ⟨_,_,rfl,run_takeDeferred p1,?_⟩⟩;have hne:∀b,b≠D->(w'.putObj D (.deferred none)).heap[b]?=w'.heap[b]?:=fun b hb=>pO hb
  have hs:=I.size;have hnD:∀g,(Value.slice va (cz total).length vc).ownBlock=some g->g≠D:=fun g hg e=>by
   subst e;obtain ⟨-,o,h1,h2⟩:=I.own g ⟨_,d0,hg⟩;rw [hK] at h1;cases h1;cases h2
  have hlow:∀b,b<w.heap.size->(Value.slice va (cz total).length vc).ownBlock≠some b:=fun b hb e=>by have:=(how.lt _ e).1;omega
  refine ⟨.slice va (cz total).length vc,by simp [results,Tryz.results76,go_sem],⟨_,rfl,?_,?_⟩⟩
  .rw [io];have h1:=ed o1 (w':=w'.putObj D (.deferred none)) fun g hg=>hne g (hnD g hg)
   exact ⟨h1.1,h1.2.imp id fun ⟨g,cap,cur,e,hb,r⟩=>⟨g,cap,cur,e,by omega,r⟩⟩
  .refine ⟨o4.trans I.os,by simp;omega,fun b hb=>?_⟩;rw [hne b (by omega),o2 b (by omega) (hlow b hb),I.block b (by omega) (by omega),qg w root hb]
end
def bytesOf (xs:List Wq):ByteArray:=⟨(xs.map fun v=>UInt8.ofNat (intOf v).toNat).toArray⟩
theorem ut {s:ByteArray}{xs:List Wq}(h:Lib.strCells s=xs):s=bytesOf xs:=by
 subst h;obtain ⟨d⟩:=s;unfold bytesOf Lib.strCells;simp only [List.map_map];congr 1;have:((fun v=>UInt8.ofNat (intOf v).toNat)∘fun b:UInt8=>Value.int .u8 (b.toNat:Int))=id:=by
  funext b;simp [intOf]
 rw [this,List.map_id,Array.toArray_toList]
def oM (st:St):List (ByteArray×Ver):=fT (cz (bI st.f []))
def xI (st:St)(tm:Int):ByteArray:=bytesOf (gH (oM st)++([.int .u8 3]++num8 (st.last+1) 8++([.int .u8 4]++num8 tm 8)))
theorem r4 (n:Nat):∀ (f:List UInt8->List Ver)(bs:List UInt8),∀x∈cx n f bs,∃k,x.1=bs++k/\x.2=f k:=by
 induction n with
 |zero=>intro f bs x hx;simp [cx] at hx
 |succ n ih=>
  intro f bs x hx;simp only [cx,List.mem_append,List.mem_flatMap] at hx;rcases hx with hx|⟨b,-,hx⟩
  .split at hx
   .simp at hx
   .simp only [List.mem_singleton] at hx;subst hx;exact ⟨[],by simp,rfl⟩
  .obtain ⟨k,h1,h2⟩:=ih _ _ x hx;exact ⟨b::k,by rw [h1];simp,h2⟩
theorem kF {st:St}{e:ByteArray×Ver}(h:e∈oM st):e.1.size<=40/\∃k,e.2∈st.f k:=by
 have h1:=(oL _).mem_iff.1 h;simp only [cz,List.mem_flatMap,List.mem_map] at h1;obtain ⟨x,hx,v,hv,rfl⟩:=h1;obtain ⟨k,-,hk⟩:=r4 _ _ _ x hx;have:=(nk hx).2;exact ⟨by simpa [ByteArray.size] using this,k,by simpa [hk] using hv⟩
theorem Ak {E:List (ByteArray×Ver)}(h:∀e∈E,e.1.size<=40/\e.2.body.size<=100):dC E<=E.length * 200:=by
 induction E with
 |nil=>simp [dC]
 |cons e E ih=>
  have h1:=ih fun x hx=>h x (by simp [hx])
  have h2:=h e (by simp);have h3:xA e.1 e.2<=200:=by unfold xA;split<;>omega
  simp only [dC,List.map_cons,List.sum_cons,lC] at h1 ⊢;omega
section
variable {A:Nat->Prop} {B k0:Nat} {w:Wz} {st:St} {L:Lg}
theorem Al (h:aW A B w k0 st L){s:Nat}(hI:Inv st s)(hT:nl st)(hs:s<2199023255552):
  Calls Yq.prog 48 #[.pointer (some ⟨k0,0,none⟩)] w fun e w'=>e=.returned (.string (xI st L.tm))/\aj w w':=by
 obtain ⟨root,c0,hN⟩:=h.store.tree;have hsum:fV (bI st.f [])<=1000:=by
  have h3:fV (bI st.f [])=tot 41 st.f:=rfl;have:=hT.cnt;have:=hT.le;omega
 have hlen:(oM st).length<=1000:=by rw [oM,io,nE];exact hsum
 have hn:=Ak (E:=oM st) fun e he=>⟨(kF he).1,by obtain ⟨k,hk⟩:=(kF he).2;exact hT.body k _ hk⟩
 have hl0:=hI.last0;have hl1:=hI.lastS;refine (Ei k0 (oM st) st.last L.tm w h.store.last h.time (xH k0 root st.f w c0 (.of hN) hsum) (by omega) (by omega) (fun e he=>?_) hl0 (by omega)).mono ?_
 .obtain ⟨k,hk⟩:=(kF he).2;obtain ⟨i,hi,e1⟩:=gM hk;have:=hI.bounds k i hi;rw [nb hi,e1] at this;omega
 .rintro e w' ⟨sb,rfl,h1,h2⟩;rw [ut h1];exact ⟨rfl,h2⟩
theorem xJ (b:ByteArray)(w:Wz):(Instr.build 36 #[(2,.string b)]).run Yq.prog w=.ok (.agg #[.int .i64 0,.int .i64 0,.string b,.slice none 0 0,.string ⟨#[]⟩]) w:=by kernel_rfl
theorem uu (h:aW A B w k0 st L)(hB:B<=w.heap.size){s:Nat}(hI:Inv st s)(hT:nl st)(hs:s<2199023255552)(o:OpD)(hk:o.kind=11):
  Calls Yq.prog 33 #[.pointer (some ⟨k0,0,none⟩),cP o] w (bh A B k0 w st L ⟨0,0,xI st L.tm,[],⟨#[]⟩⟩):=by
 have hd:=h.left (aJ o);have hkw:k0<(cI w o).heap.size:=by have:=h.ls.lt;rw [aO];omega
 have HT:=Al hd hI hT hs;have HB:Hid (∀w1,aj (cI w o) w1->_):=fun w1 hb=>box5 (mi o h.ls (FrC.left hkw hb))
 have HF:Hid (∀w1 x0 x1 x2 x3 x4,aj (cI w o) w1->bh A B k0 w st L ⟨0,0,xI st L.tm,[],⟨#[]⟩⟩ (.returned (il ⟨0,0,xI st L.tm,[],⟨#[]⟩⟩ (.slice none 0 0))) (put5 w1 (w.heap.size+1) x0 x1 x2 x3 x4)):=fun w1 x0 x1 x2 x3 x4 hl=>by
  obtain ⟨e1,e2,e3,e4⟩:=nA (A':=A) (sv:=.slice none 0 0) (its:=[]) (r:=w.heap.size+1) (aJ o) h.ls.lt hB (by omega) (by rw [aO];omega) ⟨_,gu o,rfl⟩ (fun _ h=>h) (fun b hb=>.inl hb) h.ls.inn (hd.left hl) (fy.left hkw hl) (FrC.left hkw hl) (fS o h.ls) ⟨none,0,rfl,fun _=>rfl,fun h=>absurd rfl h⟩ x0 x1 x2 x3 x4;exact ⟨_,rfl,A,fun _ h=>h,e1,e2,e3,e4⟩
 have hb1:=xJ;generalize xI st L.tm=sb at *;clear hd hkw;obtain ⟨kind,key,body,delim,past,n,src⟩:=o;simp only at hk;subst hk;unfold cI at HT HF HB;clear h hI hT;unfold cP;go_enter (Yq.nq Tryz.func33),Tryz.ntmps33;go_wp2_with (go_at_call 48;refine HT.mono ?_;clear HT;rintro e w1 ⟨rfl,hb⟩;obtain ⟨⟨b0,b1,b2,b3,b4⟩,f0,f1,f2,f3,f4⟩:=HB.out w1 hb)
 exact bodyPost_ret (v:=il ⟨0,0,sb,[],⟨#[]⟩⟩ (.slice none 0 0)) (by simp [results,Tryz.results33,go_sem,il,b0,b1,b2,b3,b4]) rfl (HF.out w1 _ _ _ _ _ hb)
end
end
