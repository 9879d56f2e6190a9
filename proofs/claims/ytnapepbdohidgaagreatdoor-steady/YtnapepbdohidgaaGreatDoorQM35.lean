/- Part of a proof. -/
import Derived.Test.YtnapepbdohidgaaGreatDoorQM34
import Derived.Laws.AppendOwn
set_option maxHeartbeats 4000000
set_option maxRecDepth 100000
namespace Go.Proofs.YtnapepbdohidgaaGreatDoorQ
section
open Go
open Go.Conc Go.ConcX Go.ConcX.Gen Go.RowKit
theorem qz (d:Dk)(key body:ByteArray)(hk:aX key=true)(hb:body.size<=100)(hc:d.st.count<200):dD d ⟨1,key,body,noB,noB,0,0⟩=⟨dj d.st key body false,d.L,d.al++[⟨0,d.st.last+1,⟨#[]⟩,[],⟨#[]⟩⟩]⟩:=by
 have h1:¬100<body.size:=by omega
 have h2:¬200<=d.st.count:=by omega
 simp [dD,stepA,bF,hk,h1,h2]
theorem vd (d:Dk)(key:ByteArray)(hk:aX key=true)(hc:d.st.count<200):dD d ⟨4,key,noB,noB,noB,0,0⟩=⟨dj d.st key ⟨#[]⟩ true,d.L,d.al++[⟨0,d.st.last+1,⟨#[]⟩,[],⟨#[]⟩⟩]⟩:=by
 have h2:¬200<=d.st.count:=by omega
 simp [dD,stepA,bF,hk,h2]
theorem ve (d:Dk):dD d ⟨6,noB,noB,noB,noB,1,0⟩=⟨d.st,(eE d.L d.st.f kC 1).1,d.al++[mG (eE d.L d.st.f kC 1)]⟩:=by
 simp [dD,stepA,kC,noB]
theorem jL (d:Dk)(body:ByteArray)(src:Int):dD d ⟨8,noB,body,noB,noB,0,src⟩=⟨d.st,(dC d.L (dG d.toks src body)).1,d.al++[mG (dC d.L (dG d.toks src body))]⟩:=by
 simp [dD,stepA]
theorem tD {L:Lg}{tok:ByteArray}{n pg:Int}{i:Nat}{x:LsA}(h1:dk tok L.told=some (n,pg))(h2:g6 n L.opened=some i)(h3:L.opened[i]?=some x):dC L tok=(⟨L.opened.set i (x.again 10),L.begun,if x.tok pg=⟨#[]⟩ then L.told else ii (x.tok pg) (n,pg+1) L.told⟩,x.page pg,x.tok pg,0):=by
 unfold dC
 rw [h1]
 simp only [h2,h3]
theorem vg {L:Lg}{tok:ByteArray}(h1:dk tok L.told=none):dC L tok=(L,[],⟨#[]⟩,9):=by
 unfold dC
 rw [h1]
theorem qA {toks:List ByteArray}{k:Nat}{t:ByteArray}(h:toks[k]?=some t)(ht:t≠⟨#[]⟩)(body:ByteArray):dG toks k body=t:=by
 have hk:k<toks.length:=(List.getElem?_eq_some_iff.1 h).1
 unfold dG
 rw [if_pos ⟨by omega,by omega⟩,Int.toNat_natCast,h,Option.getD_some,if_neg ht]
theorem zV:cT kC (cX (dj (dj st0 sB ⟨#[120]⟩ false) sA ⟨#[121]⟩ false).f [])=[⟨1,sA,2⟩,⟨1,sB,1⟩]:=by
 have hf:cX (dj (dj st0 sB ⟨#[120]⟩ false) sA ⟨#[121]⟩ false).f []=[([97],[⟨2,⟨#[121]⟩,false⟩]),([98],[⟨1,⟨#[120]⟩,false⟩])]:=by
  show cM (39+2) _ []=_
  rw [zS 39 _ [] [(97,⟨2,⟨#[121]⟩,false⟩),(98,⟨1,⟨#[120]⟩,false⟩)] (by simp)]
  ·rfl
  ·simp [dj,upd,st0,sA,sB]
  ·intro x hx
   simp at hx
   rcases hx with rfl|rfl<;>simp [dj,upd,st0,sA,sB]
  ·intro c hc k
   have h1:c≠97:=fun e=>hc ⟨2,⟨#[121]⟩,false⟩ (by rw [e];simp)
   have h2:c≠98:=fun e=>hc ⟨1,⟨#[120]⟩,false⟩ (by rw [e];simp)
   simp [dj,upd,st0,sA,sB,h1,h2]
 rw [hf,r7]
 ·rfl
 ·intro x hx
  simp at hx
  rcases hx with rfl|rfl<;>exact xJ _ _ _ rfl
theorem xK:∃a0 a1 a2 a3 a4 a5:je,(bK eD).al=[a0,a1,a2,a3,a4,a5]/\a2.tok≠⟨#[]⟩/\a4.items=[⟨1,sB,1⟩]/\a4.code=0/\a4.tok=⟨#[]⟩/\a5.code=9:=by
 obtain ⟨s,hs⟩:∃s,s=dj (dj st0 sB ⟨#[120]⟩ false) sA ⟨#[121]⟩ false:=⟨_,rfl⟩
 have hits:=zV
 rw [<-hs] at hits
 have hcnt:s.count=2:=by rw [hs];rfl
 have kB:aX sB=true:=by decide
 have kA:aX sA=true:=by decide
 unfold eD bK
 simp only [List.foldl_cons,List.foldl_nil]
 rw [qz dk0 sB _ kB (by decide) (by decide),qz _ sA _ kA (by decide) (by decide),ve]
 simp only [dk0,List.nil_append]
 rw [<-hs,zT _ s.f (by rw [hits];simp)]
 simp only [List.length_nil,mG]
 rw [if_neg (by omega),vd _ sB kB (by simp [hcnt]),jL _ noB 2]
 simp only [List.nil_append,Int.zero_add,ii,Dk.toks]
 rw [show (2:Int)=((2:Nat):Int) from rfl,qA (t:=fU 1 2) (by rfl) (kT _ _)]
 rw [tD (n:=1) (pg:=2) (i:=0) (x:=⟨1,s.f,kC,1,10⟩) (by simp [dk]) (by simp [g6]) (by rfl)]
 have ht:(⟨1,s.f,kC,1,10⟩:LsA).tok 2=⟨#[]⟩:=by
  rw [zU _ rfl rfl 2 (by omega)]
  simp [hits]
 have hp:(⟨1,s.f,kC,1,10⟩:LsA).page 2=[⟨1,sB,1⟩]:=by
  have hq':kC.p.data.toList=[]:=rfl
  simp only [LsA.page,hq',hits]
  rfl
 simp only [mG,ht,hp,if_true]
 rw [jL _ _ (-1)]
 rw [vg (by
  have e:∀toks,dG toks (-1) ⟨#[110,111,110,101]⟩=⟨#[110,111,110,101]⟩:=fun toks=>by unfold dG;rw [if_neg (by omega)]
  rw [e]
  simp only [dk]
  rw [if_neg (by have:=tok12;intro e;rw [show ((2:Nat):Int)=2 from rfl,tok12] at e;revert e;decide)])]
 exact ⟨_,_,_,_,_,_,rfl,kT _ _,rfl,rfl,rfl,rfl⟩
def kf (k:Nat):List UInt8->List Ver
 | [a,b]=>if a=107/\97<=b.toNat/\b.toNat<97+k then [⟨((b.toNat-96:Nat):Int),⟨#[]⟩,false⟩] else []
 |_=>[]
def LsA.all (x:LsA):List ItD:=cT x.q (cX x.f x.q.p.data.toList)
theorem nv (l:Lst)(p i:Nat)(hs:l.size=p)(hp:p<=20)(hi:i<=1000):∀ (its:List ItD)(k:Nat),k+its.length<=2000->dA l ((i:Int)+1) k its=(its.take ((i+1) * p-k)).drop (i * p-k)
 | [],k,_=>by simp [dA]
 |x::r,k,h=>by
  have hb:(i+1) * p<=20020:=Nat.le_trans (Nat.mul_le_mul (show i+1<=1001 by omega) hp) (by omega)
  have e0:(i+1) * p=i * p+p:=by rw [Nat.add_mul,Nat.one_mul]
  have e1:IntKind.i64.wrap (((i:Int)+1) * l.size)=((i+1) * p:Nat):=by
   rw [hs,wrap_small _ (by rw [<-Int.natCast_one,<-Int.natCast_add,<-Int.natCast_mul];omega) (by rw [<-Int.natCast_one,<-Int.natCast_add,<-Int.natCast_mul];omega)]
   rw [Int.natCast_mul,Int.natCast_add]
   rfl
  have e2:IntKind.i64.wrap (IntKind.i64.wrap (((i:Int)+1) * l.size)-l.size)=(i * p:Nat):=by
   rw [e1,hs,wrap_small _ (by omega) (by omega)]
   omega
  simp only [List.length_cons] at h
  have ih:=nv l p i hs hp hi r (k+1) (by omega)
  rw [dA,ih]
  have hin:fR l ((i:Int)+1) ((k:Int)+1)=decide (i * p<=k/\k<(i+1) * p):=by
   unfold fR
   rw [e2,e1,Bool.decide_and]
   congr 1
   ·exact decide_eq_decide.2 (by omega)
   ·exact decide_eq_decide.2 (by omega)
  rw [hin]
  by_cases h1:k<(i+1) * p
  ·have e3:(i+1) * p-k=((i+1) * p-(k+1))+1:=by omega
   rw [e3,List.take_succ_cons]
   by_cases h2:i * p<=k
   ·rw [decide_eq_true ⟨h2,h1⟩,if_pos rfl,show i * p-k=0 by omega,show i * p-(k+1)=0 by omega]
    rfl
   ·rw [decide_eq_false (fun h=>h2 h.1),if_neg (by simp),show i * p-k=(i * p-(k+1))+1 by omega]
    rfl
  ·rw [decide_eq_false (fun h=>h1 h.2),if_neg (by simp),show (i+1) * p-k=0 by omega,show (i+1) * p-(k+1)=0 by omega]
   simp
section
variable {x:LsA} {p i:Nat}
theorem LsA.page_cut (hs:x.size=p)(hp:p<=20)(hi:i<=1000)(hl:x.all.length<=1000):x.page ((i:Int)+1)=(x.all.take ((i+1) * p)).drop (i * p):=
 nv (x.lst none) p i hs hp hi x.all 0 (by omega)
theorem LsA.tok_cut (hs:x.size=p)(hp:p<=20)(hi:i<=1000):x.tok ((i:Int)+1)=if (i+1) * p<x.all.length then fU x.num ((i:Int)+2) else ⟨#[]⟩:=by
 have hb:(i+1) * p<=20020:=Nat.le_trans (Nat.mul_le_mul (show i+1<=1001 by omega) hp) (by omega)
 have e1:IntKind.i64.wrap (((i:Int)+1) * x.size)=((i+1) * p:Nat):=by
  rw [hs,wrap_small _ (by rw [<-Int.natCast_one,<-Int.natCast_add,<-Int.natCast_mul];omega) (by rw [<-Int.natCast_one,<-Int.natCast_add,<-Int.natCast_mul];omega)]
  rw [Int.natCast_mul,Int.natCast_add]
  rfl
 have e2:IntKind.i64.wrap ((i:Int)+1+1)=(i:Int)+2:=by rw [wrap_small _ (by omega) (by omega)];omega
 show xl (x.lst none) _ x.all.length=_
 unfold xl
 show (if IntKind.i64.wrap (((i:Int)+1) * x.size)<(x.all.length:Int) then fU x.num (IntKind.i64.wrap ((i:Int)+1+1)) else _)=_
 rw [e1,e2]
 by_cases h:(i+1) * p<x.all.length
 ·rw [if_pos h,if_pos (by omega)]
 ·rw [if_neg h,if_neg (by omega)]
end
def Calm1 (o:OpD):Prop:=1<=o.kind/\o.kind<=5
theorem vh (d:Dk)(o:OpD)(h:Calm1 o):(dD d o).L=d.L/\∃a,(dD d o).al=d.al++[a]:=by
 obtain ⟨h1,h2⟩:=h
 refine ⟨?_,_,rfl⟩
 unfold dD stepA
 rw [if_neg (by omega),if_neg (by omega),if_neg (by omega),if_neg (by omega),if_neg (by omega)]
theorem nw (ops:List OpD):∀d:Dk,(∀o∈ops,Calm1 o)->(ops.foldl dD d).L=d.L/\∃l,(ops.foldl dD d).al=d.al++l:=by
 induction ops with
 |nil=>intro d _;exact ⟨rfl,[],by simp⟩
 |cons o r ih=>
  intro d h
  obtain ⟨h1,a,h2⟩:=vh d o (h o (by simp))
  obtain ⟨k1,l,k2⟩:=ih (dD d o) (fun x hx=>h x (by simp [hx]))
  rw [List.foldl_cons]
  exact ⟨k1.trans h1,a::l,by rw [k2,h2];simp⟩
def fL (at_:Int):OpD:=⟨8,⟨#[]⟩,⟨#[]⟩,⟨#[]⟩,⟨#[]⟩,0,at_⟩
structure WhI (x:LsA)(i:Nat)(s:List OpD)(k:Nat):Prop where
 at_:s.length=k+1
 ans:(bK s).al[k]?=some ⟨0,0,⟨#[]⟩,x.page ((i:Int)+1),x.tok ((i:Int)+1)⟩
 more:x.tok ((i:Int)+1)≠⟨#[]⟩->(bK s).L.opened=[x]/\dk (x.tok ((i:Int)+1)) (bK s).L.told=some (x.num,(i:Int)+2)
theorem WhI.next {x:LsA}{i k:Nat}{s:List OpD}(h:WhI x i s k)(hl:x.left=10)(ht:x.tok ((i:Int)+1)≠⟨#[]⟩)(ex:List OpD)(hex:∀o∈ex,Calm1 o):WhI x (i+1) (s++ex++[fL k]) (s++ex).length:=by
 obtain ⟨m1,m2⟩:=h.more ht
 obtain ⟨e1,l,e2⟩:=nw ex (bK s) hex
 have hrun:bK (s++ex)=ex.foldl dD (bK s):=by simp [bK]
 have hkl:k<(bK s).al.length:=by rw [kQ,h.at_];omega
 have htk:(bK (s++ex)).toks[k]?=some (x.tok ((i:Int)+1)):=by
  unfold Dk.toks
  rw [List.getElem?_map,hrun,e2,List.getElem?_append_left hkl,h.ans]
  rfl
 have hL:(bK (s++ex)).L=(bK s).L:=by rw [hrun,e1]
 have hst:dD (bK (s++ex)) (fL k)=⟨(bK (s++ex)).st,(dC (bK s).L (x.tok ((i:Int)+1))).1,(bK (s++ex)).al++[mG (dC (bK s).L (x.tok ((i:Int)+1)))]⟩:=by
  have:=jL (bK (s++ex)) ⟨#[]⟩ k
  rw [qA htk ht,hL] at this
  exact this
 have hn:dC (bK s).L (x.tok ((i:Int)+1))=(⟨[x],(bK s).L.begun,if x.tok ((i:Int)+2)=⟨#[]⟩ then (bK s).L.told else ii (x.tok ((i:Int)+2)) (x.num,(i:Int)+2+1) (bK s).L.told⟩,x.page ((i:Int)+2),x.tok ((i:Int)+2),0):=by
  have hx:x.again 10=x:=by
   obtain ⟨a,b,c,d,e⟩:=x
   simp only at hl
   subst hl
   rfl
  have:=tD (L:=(bK s).L) (i:=0) (x:=x) m2 (by rw [m1];simp [g6]) (by rw [m1];rfl)
  rw [m1,hx] at this
  exact this
 rw [hn] at hst
 have ei:((i+1:Nat):Int)+1=(i:Int)+2:=by omega
 have ei2:((i+1:Nat):Int)+2=(i:Int)+2+1:=by omega
 refine ⟨by simp;omega,?_,?_⟩
 ·rw [gF,hst,ei]
  simp only
  rw [<-kQ (s++ex),List.getElem?_append_right (lR _),Nat.sub_self]
  rfl
 ·rw [ei,ei2,gF,hst]
  intro h2
  exact ⟨rfl,by simp only [if_neg h2];rw [gW,if_pos rfl]⟩
def jM (q:Qy)(p:Int):OpD:=⟨if q.vs then 7 else 6,q.p,⟨#[]⟩,q.d,q.af,p,0⟩
theorem WhI.first (pre:List OpD)(hpre:∀o∈pre,Calm1 o)(q:Qy)(p:Nat)(hp:1<=p/\p<=20):WhI ⟨1,(bK pre).st.f,q,p,10⟩ 0 (pre++[jM q p]) pre.length:=by
 obtain ⟨e1,-⟩:=nw pre dk0 hpre
 have hL:(bK pre).L=⟨[],0,[]⟩:=e1
 obtain ⟨x,hx⟩:∃x:LsA,x=⟨1,(bK pre).st.f,q,p,10⟩:=⟨_,rfl⟩
 have hnew:gY ⟨[],0,[]⟩ (bK pre).st.f q p=x:=by rw [hx];rfl
 have hbeg:eE (bK pre).L (bK pre).st.f q p=if x.tok 1=⟨#[]⟩ then (⟨[],0,[]⟩,x.page 1,⟨#[]⟩,0) else (⟨[x],1,ii (x.tok 1) (1,2) []⟩,x.page 1,x.tok 1,0):=by
  rw [hL]
  unfold eE
  rw [if_neg (by omega),hnew]
  by_cases ht:x.tok 1=⟨#[]⟩
  ·rw [if_pos ht,if_pos ht]
  ·rw [if_neg ht,if_neg ht,if_neg (by simp)]
   rfl
 have hst:dD (bK pre) (jM q p)=⟨(bK pre).st,(eE (bK pre).L (bK pre).st.f q p).1,(bK pre).al++[mG (eE (bK pre).L (bK pre).st.f q p)]⟩:=by
  obtain ⟨vs,a,b,c⟩:=q
  cases vs
  ·simp [dD,stepA,jM]
  ·simp [dD,stepA,jM]
 rw [<-hx]
 refine ⟨by simp,?_,fun ht=>?_⟩
 ·rw [gF,hst,<-kQ pre,hbeg]
  simp only
  rw [List.getElem?_append_right (lR _),Nat.sub_self]
  by_cases ht:x.tok 1=⟨#[]⟩
  ·rw [if_pos ht]
   simp only [gZ,mG]
   rw [show ((0:Nat):Int)+1=1 from rfl,ht]
  ·rw [if_neg ht]
   rfl
 ·have ht:x.tok 1≠⟨#[]⟩:=ht
  rw [gF,hst,hbeg,if_neg ht]
  refine ⟨rfl,?_⟩
  show dk (x.tok 1) (ii (x.tok 1) (1,2) [])=some (x.num,2)
  rw [gW,if_pos rfl,hx]
theorem Am {st:St}(hT:mF st)(q:Qy)(n s l:Int):(⟨n,st.f,q,s,l⟩:LsA).all.length<=200:=by
 have h1:(⟨n,st.f,q,s,l⟩:LsA).all.length<=gQ (cX st.f q.p.data.toList):=ox q _ (jD _ _ _)
 have h2:=wY q.p.data.toList 41 st.f
 have h3:gQ (cX st.f q.p.data.toList)=tot (41-q.p.data.toList.length) fun k=>st.f (q.p.data.toList++k):=mg _ _ _ _
 have:=hT.cnt
 have:=hT.le
 omega
end
section
open Go
theorem mu (L:Nat):∀ (r c:Nat),c<=L+(L+768) / 4->Builtin.growBy L r c<=L+(L+768) / 4
 | 0,c,h=>h
 |r+1,c,h=>by
  unfold Builtin.growBy
  split
  ·exact h
  ·exact mu L r _ (by omega)
theorem qB {need old:Nat}(h:old<need):Builtin.nextslicecap need old<=need+(need+768) / 4+512:=by
 unfold Builtin.nextslicecap
 split
 ·omega
 ·split
  ·omega
  ·have:=mu need 4 old (by omega)
   omega
section
variable {P:Program} {w:World} {base:Nat} {t ty e:TypeId} {i:TypeInfo} {z:Value} {size bytes:Nat}
theorem ny (hzs:z.cells.size=size)(hbase:base<=w.heap.size){xs:List Value}{k cap:Nat}(hl:xs.length=k * size)(hk:k<=cap)(hc:cap<=maxLen)(row:Option Nat):
  (w.drew.alloc (.cells (xs.toArray++Builtin.zeroCells z.cells (cap-k)) e)).ownsRow base e size (.slice (some ⟨w.heap.size,0,none⟩) k cap) k xs/\w.grownBy (w.drew.alloc (.cells (xs.toArray++Builtin.zeroCells z.cells (cap-k)) e)) row:=by
 constructor
 ·refine ⟨hl,.inr ⟨w.heap.size,cap,_,rfl,hbase,heap_alloc_new w.drew _,hk,hc,?_,?_⟩⟩
  ·rw [Array.size_append,size_zeroCells,hzs,List.size_toArray,hl,<-Nat.add_mul]
   congr 1
   omega
  ·rw [<-hl,Array.toList_append]
   exact List.take_left
 ·exact ⟨rfl,rfl,rfl,by simp,fun b hb _=>heap_alloc_old w.drew _ hb⟩
theorem vi (ht:P.underlying t=some (.slice e))(hi:P.info? e=some i)(hz:i.zero=some z)(hsize:i.size=size)(hby:i.bytes=bytes)(hzs:z.cells.size=size)
  {v:Value} {n:Nat} {xs:List Value} (hown:w.ownsRow base e size v n xs) {a:Addr} {m c:Nat} {news:List Value} (hl:news.length=m * size) (hnews:∀j u,news[j]?=some u->w.cell? (a.add j)=some u) (h1:∀u∈news,u.oneCell'=true)
  (h63:n+m<=maxLen) (hb:(n+m+(n+m+768) / 4+512) * bytes<=281474976710656) (hbase:base<=w.heap.size) (hm:0<m):
  ∃v' w',(Builtin.append_ #[t,t] ty #[v,.slice (some a) m c]).run P w=.ok v' w'/\w'.ownsRow base e size v' (n+m) (xs++news)/\w.grownBy w' v.ownBlock:=by
 subst hsize hby
 have hs:((n+m:Nat):Int)<=9223372036854775807:=by simp only [maxLen] at h63;omega
 have hcap:∀old,n+m<=grownCap w (n+m) old e/\grownCap w (n+m) old e<=maxLen:=fun old=>⟨grownCap_ge w _ old e,grownCap_le_maxLen w _ old e h63⟩
 have hlen:(xs++news).length=(n+m) * i.size:=by rw [List.length_append,hown.1,hl,Nat.add_mul]
 have hle:(n+m) * i.bytes<=281474976710656:=Nat.le_trans (Nat.mul_le_mul_right _ (by omega)) hb
 have hown':=hown
 obtain ⟨hxl,⟨rfl,rfl⟩|⟨g,cap,cur,rfl,hbg,hg,hnc,hcm,hcs,htk⟩⟩:=hown
 ·obtain rfl:xs=[]:=List.eq_nil_of_length_eq_zero (by simpa using hxl)
  simp only [zA,List.nil_append] at *
  have hr:=run_append_nil (P:=P) w t ty e i z ht hi hz a m c news hl hnews hm hs hle
  obtain ⟨q1,q2⟩:=ny (w:=w) (e:=e) hzs hbase (xs:=news) hlen (hcap 0).1 (hcap 0).2 (Value.ownBlock (.slice none 0 0))
  exact ⟨_,_,hr,q1,q2⟩
 ·by_cases hroom:n+m<=cap
  ·have hfit:n * i.size+news.length<=cur.size:=by rw [hl,hcs,<-Nat.add_mul];exact Nat.mul_le_mul_right _ hroom
   refine ⟨_,_,run_append_room (P:=P) w t ty e i ht hi g n cap cur hg a m c news hl hnews h1 hroom hfit,⟨hlen,.inr ⟨g,cap,_,rfl,hbg,setRow_heap w g cur _ e _ hg,hroom,hcm,?_,?_⟩⟩,rfl,rfl,rfl,by simp,fun k _ hk=>setRow_other w g k _ (fun h=>hk (by rw [h];rfl))⟩
   ·have h3:=cur.length_toList
    simp
    omega
   ·rw [htk,<-hlen]
    exact List.take_left
  ·have hcell:=hown'.cells (g:=g) rfl
   have hr:=run_append_grow (P:=P) w t ty e i z ht hi hz ⟨g,0,none⟩ n cap xs hxl hcell a m c news hl hnews (by omega) hs (Nat.le_trans (Nat.mul_le_mul_right _ (qB (by omega))) hb)
   obtain ⟨q1,q2⟩:=ny (w:=w) (e:=e) hzs hbase (xs:=xs++news) hlen (hcap cap).1 (hcap cap).2 (Value.ownBlock (.slice (some ⟨g,0,none⟩) n cap))
   rw [<-List.append_toArray] at q1 q2
   exact ⟨_,_,hr,q1,q2⟩
theorem dM {ops:Array Oper}{rest:List Oper}{o:Oper}{b:Act}{Q:Exit->Act->World->Prop}(hgd:o.guard=none)(s x:Operand)(ho:o.op=.call {callee:=.builtin .append,args:=#[s,x],argTypes:=#[t,t]})
  (ht:P.underlying t=some (.slice e)) (hi:P.info? e=some i) (hz:i.zero=some z) (hsize:i.size=size) (hby:i.bytes=bytes) (hzs:z.cells.size=size)
  {v:Value} {n:Nat} {xs:List Value} (hs:b.eval s=v) (hown:w.ownsRow base e size v n xs) {a:Addr} {m c:Nat} {news:List Value} (hx:b.eval x=.slice (some a) m c) (hl:news.length=m * size) (hnews:∀j u,news[j]?=some u->w.cell? (a.add j)=some u) (h1:∀u∈news,u.oneCell'=true)
  (h63:n+m<=maxLen) (hb:(n+m+(n+m+768) / 4+512) * bytes<=281474976710656) (hbase:base<=w.heap.size) (hm:0<m)
  (h:∀v' w',w'.ownsRow base e size v' (n+m) (xs++news)->w.grownBy w' v.ownBlock->wpList P ops Q rest (b.put o.dst v') w'):wpList P ops Q (o::rest) b w:=by
 refine wpList_plain hgd fun K hK=>?_
 obtain ⟨v',w',hr,h2,h3⟩:=vi (ty:=o.type) ht hi hz hsize hby hzs hown hl hnews h1 h63 hb hbase hm (c:=c)
 unfold Oper.wp execOp
 simp only [ho,resolve,invoke,builtin,Sem.run_bind,Sem.run_pure,Result.andThen_ok,List.map_toArray,List.map_cons,List.map_nil,hs,hx,hr]
 exact hK _ _ (h v' w' h2 h3)
end
end
section
open Go.RowKit
theorem xL (v:Value)(ops:List OpD)(mb m:Nat)(more:List OpD)(w:World)(h:br w v ops)(hm:br w (.slice (some ⟨mb,0,none⟩) m m) more)(hn:ops.length+m<=2199023255552)(h0:0<m):
  Calls Yq.prog 19 #[v,.slice (some ⟨mb,0,none⟩) m m] w fun e w'=>∃v',e=.returned v'/\w'.ownsRow w.heap.size 31 7 v' (ops.length+m) ((ops++more).flatMap aJ)/\Below w.heap.size w w':=by
 obtain ⟨i0,hi0,hz0,hz1,hz2⟩:=info_parts Yq.infoOp
 have hmm:m=more.length:=by
  obtain ⟨a',cap',he,_⟩:=hm.form
  cases he;rfl
 have hms:∀j u,(more.flatMap aJ)[j]?=some u->w.cell? ((⟨mb,0,none⟩:Addr).add j)=some u:=by
  rcases xI hm with ⟨c,he,_⟩|⟨ad,c,he,hx⟩
  ·cases he
  ·cases he;exact hx
 have HM:Hid (∀j u,(more.flatMap aJ)[j]?=some u->w.cell? ((⟨mb,0,none⟩:Addr).add j)=some u):=hms
 have HMM:Hid (m=more.length):=hmm
 clear hmm hms hm
 rcases xI h with ⟨c,rfl,rfl⟩|⟨ad,c,rfl,hsrc⟩
 ·clear h
  go_enter Yq.func19,Tryz.ntmps19
  go_wp2_with (at_builtin;refine dM rfl _ _ rfl Yq.underlying22 hi0 hz0 hz1 hz2 rfl rfl (World.ownsRow_nil _ w.heap.size _ _) rfl (news:=more.flatMap aJ) (by rw [eT,HMM.out]) HM.out (gG more) (by simp only [maxLen];omega) (by omega) (lR _) h0 ?_;intro v1 w1 ho1 hg1)
  obtain ⟨va,vc,rfl,-⟩:=aH ho1
  go_wp2
  go_ret
  refine ⟨_,rfl,by simpa using ho1,(Below.refl _ w).grown (row:=none) hg1 (lR _) (fun k e=>by cases e)⟩
 ·have HSR:Hid (∀j u,(ops.flatMap aJ)[j]?=some u->w.cell? (ad.add j)=some u):=hsrc
  clear h hsrc
  generalize hop:ops.length=n at *
  have HN:Hid (ops.length=n):=hop
  clear hop
  have HAP:Hid (∀ (os:Array Oper) (rest:List Oper) (o:Oper) (b:Act) (_:o.guard=none) (s x:Operand) (_:o.op=.call {callee:=.builtin .append,args:=#[s,x],argTypes:=#[22,22]}) (_:b.eval s=.slice none 0 0) (_:b.eval x=.slice (some ad) n c) {Q:Exit->Act->World->Prop},(∀v1 w1,w1.ownsRow w.heap.size 31 7 v1 n (ops.flatMap aJ)->w.grownBy w1 none->wpList Yq.prog os Q rest (b.put o.dst v1) w1)->wpList Yq.prog os Q (o::rest) b w):=fun os rest o b g1 s x g2 g3 g4 Q hK=>by
   by_cases hz:n=0
   ·have he:ops=[]:=List.length_eq_zero_iff.1 (HN.out.trans hz)
    subst he hz
    refine wpList_append_own w g1 s x 22 g2 w.heap.size 31 i0 _ 7 88 Yq.underlying22 hi0 hz0 hz1 hz2 rfl (by decide) _ 0 [] g3 (World.ownsRow_nil _ _ _ _) ad 0 c [] g4 rfl (fun j u hj=>by simp at hj) (fun u hu=>by simp at hu) (by simp only [maxLen];omega) (by omega) (lR _) (fun v' w' k1 k2 _=>hK v' w' k1 k2)
   ·exact dM g1 s x g2 Yq.underlying22 hi0 hz0 hz1 hz2 rfl g3 (World.ownsRow_nil _ w.heap.size _ _) g4 (news:=ops.flatMap aJ) (by rw [eT,HN.out]) HSR.out (gG ops) (by simp only [maxLen];omega) (by omega) (lR _) (by omega) (fun v' w' k1 k2=>hK v' w' (by simpa using k1) k2)
  go_enter Yq.func19,Tryz.ntmps19
  go_upto_region 3 with (at_builtin;refine HAP.out _ _ _ _ rfl _ _ rfl rfl rfl ?_;intro v1 w1 ho1 hg1;obtain ⟨va,vc,rfl,-⟩:=aH ho1)
  have b1:Below w.heap.size w w1:=(Below.refl _ w).grown (row:=none) hg1 (lR _) (fun k e=>by cases e)
  have HO:Hid (w1.ownsRow w.heap.size 31 7 (.slice va n vc) n (ops.flatMap aJ)/\Below w.heap.size w w1):=⟨by simpa using ho1,b1⟩
  clear ho1 hg1 b1
  go_wp2_with (at_builtin;refine dM rfl _ _ rfl Yq.underlying22 hi0 hz0 hz1 hz2 rfl rfl HO.out.1 rfl (news:=more.flatMap aJ) (by rw [eT,HMM.out]) (fun j u hj=>ak HO.out.2 (HM.out j u hj)) (gG more) (by simp only [maxLen];omega) (by omega) HO.out.2.size h0 ?_;intro v2 w2 ho2 hg2)
  obtain ⟨va2,vc2,rfl,-⟩:=aH ho2
  go_wp2
  go_ret
  refine ⟨_,rfl,?_,HO.out.2.grown hg2 HO.out.2.size (fun k e=>(HO.out.1.lt k e).1)⟩
  rw [List.flatMap_append]
  simpa using ho2
end
section
open Go
open Go.RowKit
def dN (ops:List OpD):List OpD:=ops.filter fun o=>decide (1<=o.kind/\o.kind<=5)
theorem mw (ops:List OpD):(dN ops).length<=ops.length:=List.length_filter_le _ _
theorem nz (ops:List OpD):∀o∈dN ops,Calm1 o:=fun o ho=>by
 have:1<=o.kind/\o.kind<=5:=of_decide_eq_true (List.mem_filter.1 ho).2
 exact this
theorem qC (a:Option Addr)(n cap:Nat)(ops:List OpD)(w:World)(h:br w (.slice a n cap) ops)(hn:n * 88<=140737488351232):
  Calls Yq.prog 27 #[.slice a n cap] w fun e w'=>∃v',e=.returned v'/\w'.ownsRow w.heap.size 31 7 v' (dN ops).length ((dN ops).flatMap aJ)/\Below w.heap.size w w':=by
 obtain ⟨i0,hi0,hz0,hz1,hz2⟩:=info_parts Yq.infoOp
 have hnl:n=ops.length:=by
  obtain ⟨a',cap',he,_⟩:=h.form
  cases he;rfl
 have HS:Hid (br w (.slice a n cap) ops/\n=ops.length):=⟨h,hnl⟩
 clear h hnl
 go_enter Yq.func27,Tryz.ntmps27
 go_wp2_with fail
 go_loopw [3,4] (fun s3 s4 wr=>∃i:Nat,i<=n/\s4=.int .i64 i/\wr.ownsRow w.heap.size 31 7 s3 (dN (ops.take i)).length ((dN (ops.take i)).flatMap aJ)/\Below w.heap.size w wr) (fun _ s4 _=>n-(intOf s4).toNat)
 case atStart=>exact ⟨0,Nat.zero_le _,rfl,World.ownsRow_nil _ _ _ _,Below.refl _ _⟩
 case round=>
  obtain ⟨i,hin,rfl,hown,hb⟩:=hrel
  obtain ⟨va,vc,rfl,-⟩:=aH hown
  by_cases hlt:i<n
  ·have hlo:i<ops.length:=by rw [<-HS.out.2];exact hlt
   have hne:ops≠[]:=by intro e;rw [e] at hlo;simp at hlo
   obtain ⟨a',cap',he,hx⟩:=HS.out.1.form
   obtain ⟨b,off,ha,hSc⟩:=hx hne
   subst ha
   cases he
   obtain ⟨c0,c1,c2,c3,c4,c5,c6⟩:=hSc i hlo
   replace c0:=ak hb c0
   replace c1:=ak hb c1
   replace c2:=ak hb c2
   replace c3:=ak hb c3
   replace c4:=ak hb c4
   replace c5:=ak hb c5
   replace c6:=ak hb c6
   have HTK:Hid (dN (ops.take (i+1))=dN (ops.take i)++(if 1<=ops[i].kind/\ops[i].kind<=5 then [ops[i]] else [])):=show dN (ops.take (i+1))=_ by
    rw [List.take_succ_eq_append_getElem hlo]
    unfold dN
    rw [List.filter_append]
    by_cases hk:1<=ops[i].kind/\ops[i].kind<=5<;>simp [hk]
   have hle:(dN (ops.take i)).length<=i:=by have:=mw (ops.take i);rw [List.length_take] at this;omega
   generalize ops[i]=o at *
   obtain ⟨kind,key,body,delim,past,nn,src⟩:=o
   simp only at c0 c1 c2 c3 c4 c5 c6 HTK
   have HX:Hid (wr.ownsRow w.heap.size 31 7 (.slice va (dN (ops.take i)).length vc) (dN (ops.take i)).length ((dN (ops.take i)).flatMap aJ)/\Below w.heap.size w wr):=⟨hown,hb⟩
   clear hown hb hSc hx
   by_cases hk:1<=kind/\kind<=5
   ·have hk1:decide (1<=kind)=true:=decide_eq_true hk.1
    have hk2:decide (kind<=5)=true:=decide_eq_true hk.2
    rw [if_pos hk] at HTK
    generalize hm:(dN (ops.take i)).length=m at *
    have HMM:Hid ((dN (ops.take i)).length=m):=hm
    clear hm
    go_wp2_with (at_builtin;refine wpList_append_own _ rfl _ _ 22 rfl w.heap.size 31 i0 _ 7 88 Yq.underlying22 hi0 hz0 hz1 hz2 rfl (by decide) _ m _ rfl (HX.out.1.alloc _) ⟨wr.heap.size,0,none⟩ 1 1 (aJ ⟨kind,key,body,delim,past,nn,src⟩) rfl rfl (Qu7 wr ⟨kind,key,body,delim,past,nn,src⟩ _) (one7 _) (by simp only [maxLen];omega) (by omega) (by have:=HX.out.2.size;simp;omega) ?_;intro v2 w2 ho2 hg2 _)
    have b2:Below w.heap.size w w2:=(HX.out.2.alloc HX.out.2.size _).grown hg2 (by have:=HX.out.2.size;simp;omega) (fun k e=>(HX.out.1.lt k e).1)
    refine ⟨⟨i+1,by omega,by go_num,?_,b2⟩,by simp [intOf];omega⟩
    rw [HTK.out]
    rw [List.length_append,HMM.out,List.flatMap_append]
    simpa using ho2
   ·rw [if_neg hk,List.append_nil] at HTK
    by_cases hk1:1<=kind
    ·have hk2:decide (1<=kind)=true:=decide_eq_true hk1
     have hk3:decide (kind<=5)=false:=decide_eq_false (fun h=>hk ⟨hk1,h⟩)
     go_wp2_with fail
     refine ⟨⟨i+1,by omega,by go_num,?_,HX.out.2⟩,by simp [intOf];omega⟩
     rw [HTK.out];exact HX.out.1
    ·have hk2:decide (1<=kind)=false:=decide_eq_false hk1
     go_wp2_with fail
     refine ⟨⟨i+1,by omega,by go_num,?_,HX.out.2⟩,by simp [intOf];omega⟩
     rw [HTK.out];exact HX.out.1
  ·have hie:i=n:=by omega
   subst hie
   have HT:Hid (ops.take i=ops):=List.take_of_length_le (by rw [<-HS.out.2];exact lR _)
   have HO:Hid (wr.ownsRow w.heap.size 31 7 (.slice va (dN (ops.take i)).length vc) (dN (ops.take i)).length ((dN (ops.take i)).flatMap aJ)/\Below w.heap.size w wr):=⟨hown,hb⟩
   clear hown hb
   go_wp2
   go_ret
   refine ⟨_,rfl,?_,HO.out.2⟩
   have:=HO.out.1
   rw [HT.out] at this
   rw [HT.out]
   exact this
end
section
open Go
open Go.Conc Go.ConcX Go.ConcX.Gen Go.RowKit
theorem nA:∀ (l:List ItD)(i:Nat)(hi:i<l.length),(aq l)[i * 3]?=some (.int .i64 l[i].kind)/\(aq l)[i * 3+1]?=some (.string l[i].text)/\(aq l)[i * 3+2]?=some (.int .i64 l[i].ver)
 | [],i,hi=>by simp at hi
 |z::l,0,hi=>by simp [aq]
 |z::l,i+1,hi=>by
  have ih:=nA l i (by simpa using hi)
  have e:aq (z::l)=[.int .i64 z.kind,.string z.text,.int .i64 z.ver]++aq l:=by simp [aq]
  have hh:∀j,(aq (z::l))[(i+1) * 3+j]?=(aq l)[i * 3+j]?:=fun j=>by
   rw [e,List.getElem?_append_right (by simp;omega)]
   congr 1
   simp
   omega
  simp only [List.getElem_cons_succ]
  exact ⟨(hh 0).trans ih.1,(hh 1).trans ih.2.1,(hh 2).trans ih.2.2⟩
structure gH (w:World)(v:Value)(its:List ItD):Prop where
 form:∃a cap,v=.slice a its.length cap/\(its≠[]->∃g,a=some ⟨g,0,none⟩/\∀j,j<its.length * 3->w.cell? ⟨g,j,none⟩=(aq its)[j]?)
theorem bE.its {A:Nat->Prop}{w:World}{v:Value}{its:List ItD}(h:bE A w v its.length (aq its)):gH w v its:=by
 obtain ⟨a,cap,rfl,-,hx⟩:=h
 refine ⟨a,cap,rfl,fun hne=>?_⟩
 obtain ⟨g,rfl,-,-,hc⟩:=hx (by
  cases its with
  |nil=>exact absurd rfl hne
  |cons i r=>simp [aq])
 exact ⟨g,rfl,fun j hj=>hc j (by rw [dK];exact hj)⟩
theorem gH.left {w w':World}{v:Value}{its:List ItD}(h:gH w v its)(hl:aj w w'):gH w' v its:=by
 obtain ⟨a,cap,rfl,hx⟩:=h.form
 refine ⟨a,cap,rfl,fun hne=>?_⟩
 obtain ⟨g,rfl,hc⟩:=hx hne
 refine ⟨g,rfl,fun j hj=>?_⟩
 have:=hc j hj
 rw [<-this]
 have hlt:j<(aq its).length:=by rw [dK];exact hj
 rw [List.getElem?_eq_getElem hlt] at this
 exact (hl.cell this).trans this.symm
theorem zW {w:World}{base:Nat}{v:Value}{its:List ItD}(h:w.ownsRow base 41 3 v its.length (aq its)):gH w v its:=by
 rcases h.2 with ⟨rfl,h0⟩|⟨g,cap,cur,rfl,hbg,hg,hnc,hcm,hcs,htake⟩
 ·exact ⟨none,0,by rw [h0],fun hne=>absurd (List.length_eq_zero_iff.1 h0) hne⟩
 ·exact ⟨_,cap,rfl,fun _=>⟨g,rfl,fun j hj=>h.cellAt j hj⟩⟩
@[simp] theorem CD:Yq.prog.stoodInHeld 41=false:=by kernel_rfl
theorem zX (v1 v2:Value)(its:List ItD)(w:World)(h1:gH w v1 its)(h2:gH w v2 its)(hl:its.length<=100000):
  Calls Yq.prog 22 #[v1,v2] w fun e w'=>e=.returned (.bool true)/\Below w.heap.size w w':=by
 obtain ⟨a,c,rfl,hx⟩:=h1.form
 obtain ⟨b,d,rfl,hy⟩:=h2.form
 have HX:Hid (its≠[]->∃g,a=some ⟨g,0,none⟩/\∀j,j<its.length * 3->w.cell? ⟨g,j,none⟩=(aq its)[j]?):=hx
 have HY:Hid (its≠[]->∃g,b=some ⟨g,0,none⟩/\∀j,j<its.length * 3->w.cell? ⟨g,j,none⟩=(aq its)[j]?):=hy
 clear hx hy h1 h2
 obtain ⟨n,hn⟩:∃n,its.length=n:=⟨_,rfl⟩
 have HN:Hid (its.length=n):=hn
 rw [hn] at hl ⊢
 clear hn
 go_enter Yq.func22,Tryz.ntmps22
 go_wp2_with fail
 go_loopw [5] (fun s5 wr=>∃i:Nat,i<=n/\s5=.int .i64 i/\Below w.heap.size w wr) (fun s5 _=>n-(intOf s5).toNat)
 case atStart=>exact ⟨0,Nat.zero_le _,rfl,Below.refl _ _⟩
 case round=>
  obtain ⟨i,hin,rfl,hb⟩:=hrel
  by_cases hlt:i<n
  ·have hlo:i<its.length:=by rw [HN.out];exact hlt
   have hne:its≠[]:=by intro e;rw [e] at hlo;simp at hlo
   obtain ⟨g,rfl,hc⟩:=HX.out hne
   obtain ⟨g',rfl,hc'⟩:=HY.out hne
   obtain ⟨e0,e1,e2⟩:=nA its i hlo
   have c0:=ak hb ((hc (i * 3) (by omega)).trans e0)
   have c1:=ak hb ((hc (i * 3+1) (by omega)).trans e1)
   have c2:=ak hb ((hc (i * 3+2) (by omega)).trans e2)
   have d0:=ak hb ((hc' (i * 3) (by omega)).trans e0)
   have d1:=ak hb ((hc' (i * 3+1) (by omega)).trans e1)
   have d2:=ak hb ((hc' (i * 3+2) (by omega)).trans e2)
   generalize its[i]=it at *
   obtain ⟨kind,text,ver⟩:=it
   simp only at c0 c1 c2 d0 d1 d2
   have HB:Hid (Below w.heap.size w wr):=hb
   clear hb hc hc' e0 e1 e2 HX HY
   go_wp2
   go_region
   all_goals
    go_wp2
    exact ⟨⟨i+1,by omega,by go_num,HB.out.drew⟩,by simp [intOf];omega⟩
  ·have hie:i=n:=by omega
   subst hie
   have HB:Hid (Below w.heap.size w wr):=hb
   clear hb
   go_wp2
   go_ret
   exact ⟨rfl,HB.out⟩
theorem xM {ops:List OpD}{m g k:Nat}{w:World}{A:Nat->Prop}{zs:List (je×Value)}(hal:zs.map (·.1)=(bK ops).al)(hc:∀j,j<m * 5->w.cell? ⟨g,j,none⟩=(bZ zs)[j]?)(hrows:qx A w zs)(hm:ops.length=m){a:je}(ha:(bK ops).al[k]?=some a):
  ∃vl,w.cell? ⟨g,k * 5,none⟩=some (.int .i64 a.code)/\w.cell? ⟨g,k * 5+1,none⟩=some (.int .i64 a.ver)/\w.cell? ⟨g,k * 5+2,none⟩=some (.string a.body)/\w.cell? ⟨g,k * 5+3,none⟩=some vl/\w.cell? ⟨g,k * 5+4,none⟩=some (.string a.tok)/\bE A w vl a.items.length (aq a.items):=by
 have hl:zs.length=m:=by rw [<-hm,<-kQ ops,<-hal,List.length_map]
 rw [<-hal,List.getElem?_map] at ha
 obtain ⟨z,hz,rfl⟩:=Option.map_eq_some_iff.1 ha
 obtain ⟨hk,rfl⟩:=List.getElem?_eq_some_iff.1 hz
 obtain ⟨e0,e1,e2,e3,e4⟩:=mt zs k hk
 exact ⟨zs[k].2,(hc _ (by omega)).trans e0,(hc _ (by omega)).trans e1,(hc _ (by omega)).trans e2,(hc _ (by omega)).trans e3,(hc _ (by omega)).trans e4,hrows _ (List.getElem_mem hk)⟩
theorem mH (a b:List ItD):aq (a++b)=aq a++aq b:=by simp [aq]
theorem r8 (l:List ItD):∀u∈aq l,u.oneCell'=true:=by
 intro u hu
 obtain ⟨i,-,hu⟩:=List.mem_flatMap.1 hu
 simp at hu
 rcases hu with rfl|rfl|rfl<;>rfl
theorem xN (l:List ItD)(i p:Nat):l.take (i * p)++(l.take ((i+1) * p)).drop (i * p)=l.take ((i+1) * p):=by
 have h:l.take (i * p)=(l.take ((i+1) * p)).take (i * p):=by
  rw [List.take_take,Nat.min_eq_left (by rw [Nat.add_mul];omega)]
 rw [h,List.take_append_drop]
theorem vj (k:Int)(w:World):(Instr.build 31 #[(0,.int .i64 8),(6,.int .i64 k)]).run Yq.prog w=.ok (.agg #[.int .i64 8,.string ⟨#[]⟩,.string ⟨#[]⟩,.string ⟨#[]⟩,.string ⟨#[]⟩,.int .i64 0,.int .i64 k]) w:=by kernel_rfl
structure WhR (Qok:Qy->Prop)(K:OpD->Prop)(x:LsA)(p n0:Nat)(w:World)(s0 s10:Value)(kk i:Nat)(s:List OpD)(wr:World):Prop where
 wi:WhI x i s kk
 far:i=0\/i * p<x.all.length
 scr:br wr s0 s
 own:wr.ownsRow w.heap.size 41 3 s10 (x.all.take (i * p)).length (aq (x.all.take (i * p)))
 left:aj w wr
 len:s.length<=n0+2 * i
 ks:∀o∈s,dB Qok o/\K o
 sep:∀g,s10.ownBlock=some g->s0.ownBlock≠some g
theorem br.left {w w':World}{v:Value}{ops:List OpD}(h:br w v ops)(hl:aj w w'):br w' v ops:=by
 obtain ⟨a,cap,rfl,hx⟩:=h.form
 refine ⟨⟨a,cap,rfl,fun hne=>?_⟩,h.sized,h.len⟩
 obtain ⟨b,off,rfl,hS⟩:=hx hne
 refine ⟨b,off,rfl,fun i hi=>?_⟩
 obtain ⟨c0,c1,c2,c3,c4,c5,c6⟩:=hS i hi
 exact ⟨hl.cell c0,hl.cell c1,hl.cell c2,hl.cell c3,hl.cell c4,hl.cell c5,hl.cell c6⟩
theorem br.grown {w w':World}{v:Value}{ops:List OpD}{row:Option Nat}(h:br w v ops)(hg:w.grownBy w' row)(hne:∀g,row=some g->v.ownBlock≠some g):br w' v ops:=by
 obtain ⟨a,cap,rfl,hx⟩:=h.form
 refine ⟨⟨a,cap,rfl,fun hne=>?_⟩,h.sized,h.len⟩
 obtain ⟨b,off,rfl,hS⟩:=hx hne
 have hb:some b≠row:=fun e=>hne b e.symm rfl
 refine ⟨b,off,rfl,fun i hi=>?_⟩
 obtain ⟨c0,c1,c2,c3,c4,c5,c6⟩:=hS i hi
 exact ⟨hg.cell c0 hb,hg.cell c1 hb,hg.cell c2 hb,hg.cell c3 hb,hg.cell c4 hb,hg.cell c5 hb,hg.cell c6 hb⟩
theorem qD {a b:List OpD}(ha:Sized a)(hb:Sized b):Sized (a++b):=fun o ho=>(List.mem_append.1 ho).elim (ha o) (hb o)
theorem tE (W:World)(sa:Option Addr)(n sc:Nat)(s:List OpD)(o:OpD)(hn:s.length=n)(hS:br W (.slice sa n sc) s)(hz:Sized [o])(hl:n+1<=2199023255552):
  Calls Yq.prog 19 #[.slice sa n sc,.slice (some ⟨W.heap.size,0,none⟩) 1 1] (W.alloc (.cells #[.int .i64 o.kind,.string o.key,.string o.body,.string o.delim,.string o.past,.int .i64 o.n,.int .i64 o.src] 31)) fun e w'=>∃sa3 sc3,e=.returned (.slice sa3 (n+1) sc3)/\br w' (.slice sa3 (n+1) sc3) (s++[o])/\aj W w'/\∀g,(Value.slice sa3 (n+1) sc3).ownBlock=some g->W.heap.size<=g:=by
 have h1:=hS.left (aj.refl.alloc (.cells #[.int .i64 o.kind,.string o.key,.string o.body,.string o.delim,.string o.past,.int .i64 o.n,.int .i64 o.src] 31))
 have h2:br (W.alloc (.cells #[.int .i64 o.kind,.string o.key,.string o.body,.string o.delim,.string o.past,.int .i64 o.n,.int .i64 o.src] 31)) (.slice (some ⟨W.heap.size,0,none⟩) 1 1) [o]:=xH W [o] _ _ rfl 1 rfl hz (by simp)
 refine (xL _ s W.heap.size 1 [o] _ h1 h2 (by omega) (by omega)).mono ?_
 rintro e w' ⟨v',rfl,hown,hb⟩
 obtain ⟨sa3,sc3,rfl,-⟩:=aH hown
 have hscr:=iH hown (by simp) (qD hS.sized hz) (by simp;omega)
 rw [hn] at hscr ⊢
 exact ⟨sa3,sc3,rfl,hscr,(aj.refl.alloc _).trans (.below hb),fun g hg=>by
  have:=(hown.lt g (by rw [hn];exact hg)).1
  simp at this
  omega⟩
theorem WhR.next {Qok:Qy->Prop}{K:OpD->Prop}{x:LsA}{p n0 kk i:Nat}{w wr W w2:World}{s0 s10 s0' s10':Value}{s:List OpD}(R:WhR Qok K x p n0 w s0 s10 kk i s wr)(hx:x.left=10)(ht:x.tok ((i:Int)+1)≠⟨#[]⟩)(hfar:(i+1) * p<x.all.length)(ex:List OpD)(hex:ex.length<=1)(hexk:∀o∈ex,Calm1 o/\dB Qok o/\K o)(h8:dB Qok (fL kk)/\K (fL kk))
  (hs:br W s0' (s++ex++[fL kk])) {n':Nat} (ho:w2.ownsRow w.heap.size 41 3 s10' n' (aq (x.all.take ((i+1) * p)))) (hl:aj w2 W) (hlw:aj w w2) (hsep:∀g,s0'.ownBlock=some g->w2.heap.size<=g):WhR Qok K x p n0 w s0' s10' (s++ex).length (i+1) (s++ex++[fL kk]) W:=by
 have hn:n'=(x.all.take ((i+1) * p)).length:=by
  have:=ho.1
  rw [dK] at this
  omega
 rw [hn] at ho
 refine ⟨R.wi.next hx ht ex (fun o h=>(hexk o h).1),.inr hfar,hs,bh ho (fun g _ hg=>hl.block g hg),hlw.trans hl,?_,fun o h=>?_,fun g h1 h2=>by
  have h3:=(ho.lt g h1).2
  have h4:=hsep g h2
  omega⟩
 ·have:=R.len
  simp
  omega
 ·rcases List.mem_append.1 h with h|h
  ·rcases List.mem_append.1 h with h|h
   ·exact R.ks o h
   ·exact (hexk o h).2
  ·simp only [List.mem_singleton] at h
   subst h
   exact h8
theorem xO (Qok:Qy->Prop)(K:OpD->Prop)(G:World->Prop)(N:Nat)(hAns:im Qok K G N)(hN:N<2199023255540)(x:LsA)(p k n0:Nat)(v bv:Value)(s bs:List OpD)(w:World)(hG:∀w',aj w w'->G w')
  (hS:br w v s) (hB:br w bv bs) (hI:WhI x 0 s k) (hx:x.size=p/\x.left=10) (hp:1<=p/\p<=20) (hall:x.all.length<=200) (hbs:∀o∈bs,Calm1 o/\dB Qok o/\K o) (hks:∀o∈s,dB Qok o/\K o) (hK8:∀n,dB Qok (fL n)/\K (fL n)) (hn0:s.length=n0) (hn:n0+420<=N):
  Calls Yq.prog 28 #[v,.int .i64 k,.int .i64 p,bv] w fun e w'=>(∃ov,e=.returned (.tuple #[ov,.bool true])/\gH w' ov x.all/\aj w w')\/Stop Qok e w':=by
 obtain ⟨i0,hi0,hz0,hz1,hz2⟩:=info_parts Yq.infoItem
 obtain ⟨ba,bcap,rfl,hbx⟩:=hB.form
 have HBX:Hid (bs≠[]->∃b off,ba=some ⟨b,off,none⟩/\kO w b off bs):=hbx
 have HBZ:Hid (Sized bs):=hB.sized
 have HBS:Hid (∀o∈bs,Calm1 o/\dB Qok o/\K o):=hbs
 have HK8:Hid (∀n,dB Qok (fL n)/\K (fL n)):=hK8
 have HA:Hid (im Qok K G N):=hAns
 have HGG:Hid (∀w',aj w w'->G w'):=hG
 have HXX:Hid (x.size=p/\x.left=10):=hx
 obtain ⟨bl,hbl⟩:∃bl,bs.length=bl:=⟨_,rfl⟩
 have HBL:Hid (bs.length=bl):=hbl
 rw [hbl]
 have hbn:=vj
 have H0:Hid (WhR Qok K x p n0 w v (.slice none 0 0) k 0 s w):=⟨hI,.inl rfl,hS,by simp only [Nat.zero_mul,List.take_zero];exact World.ownsRow_nil w w.heap.size 41 3,aj.refl,by omega,hks,fun g h=>by cases h⟩
 obtain ⟨sa,scap,rfl,-⟩:=hS.form
 obtain ⟨sl,hsl⟩:∃sl,s.length=sl:=⟨_,rfl⟩
 rw [hsl] at H0 ⊢
 clear hbx hB hbs hK8 hAns hG hx hI hks hbl hS hn0 hsl
 go_enter Yq.func28,Tryz.ntmps28
 go_wp2_with fail
 go_loopw [0,10,11,12,13,14] (fun s0 s10 s11 s12 _ _ wr=>∃ (i kk:Nat) (s:List OpD),s12=.int .i64 i/\s11=.int .i64 kk/\WhR Qok K x p n0 w s0 s10 kk i s wr) (fun _ _ _ s12 _ _ _=>210-(intOf s12).toNat)
 case atStart=>exact ⟨0,k,s,rfl,rfl,H0.out⟩
 case round=>
  obtain ⟨i,kk,s,rfl,rfl,R⟩:=hrel
  have hi2:i<200:=by
   rcases R.far with h|h
   ·omega
   ·have:i * 1<=i * p:=Nat.mul_le_mul_left i hp.1
    omega
  have h210:(i:Int)<210:=by omega
  obtain ⟨va,vc,rfl,-⟩:=aH R.own
  obtain ⟨sa,scap,rfl,-⟩:=R.scr.form
  have hsl:=R.len
  have hk1:=R.wi.at_
  have HR:Hid (Calls Yq.prog 18 #[.slice sa s.length scap] wr fun e w'=>CK s s.length wr e w'\/Stop Qok e w'):=
   Calls.mono (tC Qok K G N HA.out _ s wr (fun w' h=>HGG.out w' (R.left.trans h)) R.scr (by intro e;rw [e] at hk1;simp at hk1) (by omega) hN (fun o ho=>(R.ks o ho).1) (fun o ho=>(R.ks o ho).2)) fun e w' h=>h.imp (fun h=>h.g s.length rfl) id
  have HWR:Hid (WhR Qok K x p n0 w (.slice sa s.length scap) (.slice va (x.all.take (i * p)).length vc) kk i s wr):=R
  obtain ⟨sl2,hsl2⟩:∃sl,s.length=sl:=⟨_,rfl⟩
  have HSL:Hid (s.length=sl2):=hsl2
  rw [hsl2] at HR hk1 hsl ⊢
  obtain ⟨q,hq⟩:∃q,(x.all.take (i * p)).length=q:=⟨_,rfl⟩
  have HQ:Hid ((x.all.take (i * p)).length=q):=hq
  have hq2:q<=200:=by rw [<-hq,List.length_take];omega
  rw [hq]
  have HK1:Hid (sl2=kk+1):=hk1
  clear R hsl2 hq hk1
  go_wp2_with fail
  refine HR.out.mono ?_
  rintro e w1 (⟨g,A,zs,rfl,hal,hc,hrows,hl1,hg⟩|hst)
  rotate_left
  ·obtain ⟨x,y,r,rfl,hst⟩:=hst
   exact ⟨rfl,.inr ⟨x,y,r,rfl,hst⟩⟩
  obtain ⟨vl,c0,-,-,c3,c4,hits⟩:=xM hal hc hrows HSL.out HWR.out.wi.ans
  simp only at c0 c3 c4 hits
  have hit:=hits.its
  have hpg:=LsA.page_cut HXX.out.1 hp.2 (show i<=1000 by omega) (show x.all.length<=1000 by omega)
  have htk:=LsA.tok_cut HXX.out.1 hp.2 (show i<=1000 by omega)
  obtain ⟨pg,hpg0⟩:∃pg,pg=x.page ((i:Int)+1):=⟨_,rfl⟩
  obtain ⟨tk,htk0⟩:∃tk,tk=x.tok ((i:Int)+1):=⟨_,rfl⟩
  rw [<-hpg0] at hpg hit hits
  rw [<-htk0] at htk c4
  have hpl:pg.length<=p:=by
   rw [hpg,List.length_drop,List.length_take]
   have:(i+1) * p=i * p+p:=by rw [Nat.add_mul,Nat.one_mul]
   omega
  obtain ⟨la,lc,rfl,hcap,-⟩:=hits
  obtain ⟨la',lc',e,hlx⟩:=hit.form
  cases e
  obtain ⟨m,hm⟩:∃m,pg.length=m:=⟨_,rfl⟩
  rw [hm] at c3 hpl
  have HAP:Hid (∀ (os:Array Oper) (rest:List Oper) (o:Oper) (b:Act) (_:o.guard=none) (s x':Operand) (_:o.op=.call {callee:=.builtin .append,args:=#[s,x'],argTypes:=#[34,34]}) (_:b.eval s=.slice va q vc) (_:b.eval x'=.slice la m lc) {Q:Exit->Act->World->Prop},(∀v1 w2,w2.ownsRow w.heap.size 41 3 v1 (q+m) (aq (x.all.take ((i+1) * p)))->w1.grownBy w2 (Value.slice va q vc).ownBlock->wpList Yq.prog os Q rest (b.put o.dst v1) w2)->wpList Yq.prog os Q (o::rest) b w1):=fun os rest o b g1 s x' g2 g3 g4 Q hK=>by
   have hown1:w1.ownsRow w.heap.size 41 3 (.slice va q vc) q (aq (x.all.take (i * p))):=by
    have:=bh HWR.out.own (fun g _ hg=>hl1.block g hg)
    rw [HQ.out] at this
    exact this
   have hsum:aq (x.all.take ((i+1) * p))=aq (x.all.take (i * p))++aq pg:=by rw [hpg,<-mH,xN]
   rw [hsum] at hK
   cases la with
   |none=>
    have hp0:pg=[]:=by
     by_cases h:pg=[]
     ·exact h
     ·obtain ⟨_,e,-⟩:=hlx h;cases e
    have hm0:m=0:=by rw [<-hm,hp0];rfl
    have hlc:=hcap rfl
    subst hm0 hlc
    rw [hp0,show aq []=[] from rfl,List.append_nil] at hK
    exact wpList_append_own_none g1 s x' 34 g2 w.heap.size 41 i0 3 Yq.underlying34 hi0 _ q _ g3 hown1 g4 (hK _ _ hown1 ⟨rfl,rfl,rfl,lR _,fun _ _ _=>rfl⟩)
   |some ad=>
    refine wpList_append_own w1 g1 s x' 34 g2 w.heap.size 41 i0 _ 3 32 Yq.underlying34 hi0 hz0 hz1 hz2 rfl (by decide) _ q _ g3 hown1 ad m lc (aq pg) g4 (by rw [dK,hm]) (fun j u hj=>?_) (r8 pg) (by simp only [maxLen];omega) (by omega) (by have:=HWR.out.left.size;have:=hl1.size;omega) (fun v' w' k1 k2 _=>hK v' w' k1 k2)
    have hne:pg≠[]:=fun e=>by rw [e] at hj;simp [aq] at hj
    obtain ⟨gi,e,hci⟩:=hlx hne
    cases e
    have hj2:=(List.getElem?_eq_some_iff.1 hj).1
    rw [dK] at hj2
    rw [Addr.add_lit,zA,hci j hj2,hj]
  have hlw:aj w w1:=HWR.out.left.trans hl1
  have HL2:Hid (∀w2,w1.grownBy w2 (Value.slice va q vc).ownBlock->aj w w2):=fun w2 h2=>hlw.grown h2 (fun g hg=>by
   have:=HWR.out.own.lt g (by rw [HQ.out];exact hg)
   exact this.1)
  have HNE:Hid (∀w2,w1.grownBy w2 (Value.slice va q vc).ownBlock->w2.cell? ⟨g,kk * 5+4,none⟩=some (.string tk)):=fun w2 h2=>h2.cell c4 (fun e=>by
   have:=HWR.out.own.lt g (by rw [HQ.out];exact e.symm)
   omega)
  have HSC:Hid (∀w2,w1.grownBy w2 (Value.slice va q vc).ownBlock->br w2 (.slice sa sl2 scap) s):=fun w2 h2=>by
   have h3:=(HWR.out.scr.left hl1).grown (w':=w2) h2 (fun g hg=>by
    have:=HWR.out.sep g (by rw [HQ.out];exact hg)
    exact this)
   rw [HSL.out] at h3
   exact h3
  have HTK:Hid (tk=if (i+1) * p<x.all.length then fU x.num ((i:Int)+2) else ⟨#[]⟩):=htk
  have HM:Hid (pg.length=m/\pg=(x.all.take ((i+1) * p)).drop (i * p)):=⟨hm,hpg⟩
  have HT0:Hid (tk=x.tok ((i:Int)+1)):=htk0
  have HL1:Hid (aj wr w1):=hl1
  clear hal hc hrows hl1 hg hpg htk hpg0 htk0 hlx hcap hit hm hlw HR
  have hkl:kk<sl2:=by rw [HK1.out];omega
  have HKW:Hid (∀ (W:World) (sa:Option Addr) (n sc:Nat) (s:List OpD) (o:OpD),s.length=n->br W (.slice sa n sc) s->Sized [o]->n+1<=2199023255552->Calls Yq.prog 19 #[.slice sa n sc,.slice (some ⟨W.heap.size,0,none⟩) 1 1] (W.alloc (.cells #[.int .i64 o.kind,.string o.key,.string o.body,.string o.delim,.string o.past,.int .i64 o.n,.int .i64 o.src] 31)) fun e w'=>∃sa3 sc3,e=.returned (.slice sa3 (n+1) sc3)/\br w' (.slice sa3 (n+1) sc3) (s++[o])/\aj W w'/\∀g,(Value.slice sa3 (n+1) sc3).ownBlock=some g->W.heap.size<=g):=tE
  by_cases ht:tk=⟨#[]⟩
  ·subst ht
   have hlast:¬(i+1) * p<x.all.length:=fun h=>by
    have:=HTK.out
    rw [if_pos h] at this
    exact kT _ _ this.symm
   go_wp2_with (at_builtin;refine HAP.out _ _ _ _ rfl _ _ rfl rfl rfl ?_;intro v2 w2 ho2 hg2;obtain ⟨va2,vc2,rfl,-⟩:=aH ho2;have c4b:=HNE.out _ hg2;have HO2:Hid (w2.ownsRow w.heap.size 41 3 (.slice va2 (q+m) vc2) (q+m) (aq (x.all.take ((i+1) * p)))/\aj w w2):=⟨ho2,HL2.out _ hg2⟩;clear ho2 hg2)
   have ho:=HO2.out.1
   rw [List.take_of_length_le (by omega)] at ho
   have hn:q+m=x.all.length:=by
    have:=ho.1
    rw [dK] at this
    omega
   rw [hn] at ho ⊢
   exact bodyPost_ret (v:=.tuple #[.slice va2 x.all.length vc2,.bool true]) (by simp [results,Tryz.results28]) rfl (.inl ⟨_,rfl,zW ho,HO2.out.2⟩)
  ·have hfar:(i+1) * p<x.all.length:=by
    refine Classical.byContradiction fun h=>ht ?_
    rw [HTK.out,if_neg h]
   have hmp:m=p:=by
    rw [<-HM.out.1,HM.out.2,List.length_drop,List.length_take]
    have:(i+1) * p=i * p+p:=by rw [Nat.add_mul,Nat.one_mul]
    omega
   have HFAR:Hid ((i+1) * p<x.all.length):=hfar
   have HT1:Hid (x.tok ((i:Int)+1)≠⟨#[]⟩):=by
    show x.tok ((i:Int)+1)≠⟨#[]⟩
    rw [<-HT0.out];exact ht
   have tke:=qy ht
   subst hmp
   clear hfar ht
   have h8z:Sized [fL kk]:=fun o ho=>by
    simp only [List.mem_singleton] at ho
    subst ho
    exact ⟨by simp only [fL,maxLen];decide,by simp only [fL,maxLen];decide⟩
   have H8Z:Hid (Sized [fL kk]):=h8z
   clear h8z
   by_cases hb:i<bl
   ·have hbi:i<bs.length:=by rw [HBL.out];exact hb
    obtain ⟨b,off,rfl,hSb⟩:=HBX.out (by intro e;rw [e] at hbi;simp at hbi)
    have HCB:Hid (∀w2,aj w w2->w2.cell? ⟨b,off+i * 7,none⟩=some (.int .i64 bs[i].kind)/\w2.cell? ⟨b,off+i * 7+1,none⟩=some (.string bs[i].key)/\w2.cell? ⟨b,off+i * 7+2,none⟩=some (.string bs[i].body)/\w2.cell? ⟨b,off+i * 7+3,none⟩=some (.string bs[i].delim)/\w2.cell? ⟨b,off+i * 7+4,none⟩=some (.string bs[i].past)/\w2.cell? ⟨b,off+i * 7+5,none⟩=some (.int .i64 bs[i].n)/\w2.cell? ⟨b,off+i * 7+6,none⟩=some (.int .i64 bs[i].src)):=fun w2 h2=>by
     obtain ⟨c0,c1,c2,c3,c4,c5,c6⟩:=hSb i hbi
     exact ⟨h2.cell c0,h2.cell c1,h2.cell c2,h2.cell c3,h2.cell c4,h2.cell c5,h2.cell c6⟩
    have HBI:Hid ((Calm1 bs[i]/\dB Qok bs[i]/\K bs[i])/\Sized [bs[i]]):=⟨HBS.out _ (List.getElem_mem hbi),fun o ho=>by
     simp only [List.mem_singleton] at ho
     subst ho
     exact HBZ.out _ (List.getElem_mem hbi)⟩
    clear hSb
    generalize bs[i]=bo at *
    obtain ⟨kind,key,body,delim,past,nn,src⟩:=bo
    simp only at HCB
    go_wp2_with (at_builtin;refine HAP.out _ _ _ _ rfl _ _ rfl rfl rfl ?_;intro v2 w2 ho2 hg2;obtain ⟨va2,vc2,rfl,-⟩:=aH ho2;have c4b:=HNE.out _ hg2;obtain ⟨q0,q1,q2,q3,q4,q5,q6⟩:=HCB.out _ (HL2.out _ hg2);have HO2:Hid (w2.ownsRow w.heap.size 41 3 (.slice va2 (q+m) vc2) (q+m) (aq (x.all.take ((i+1) * m)))/\aj w w2/\br w2 (.slice sa sl2 scap) s):=⟨ho2,HL2.out _ hg2,HSC.out _ hg2⟩;clear ho2 hg2)
    refine (HKW.out w2 sa sl2 scap s ⟨kind,key,body,delim,past,nn,src⟩ HSL.out HO2.out.2.2 HBI.out.2 (by omega)).mono ?_
    rintro e w3 ⟨sa3,sc3,rfl,hs3,hl3,-⟩
    have HS3:Hid (br w3 (.slice sa3 (sl2+1) sc3) (s++[⟨kind,key,body,delim,past,nn,src⟩])/\aj w2 w3):=⟨hs3,hl3⟩
    clear hs3 hl3
    go_wp2_with fail
    refine (HKW.out w3 sa3 (sl2+1) sc3 _ (fL kk) (by rw [List.length_append,HSL.out];rfl) HS3.out.1 H8Z.out (by omega)).mono ?_
    rintro e w4 ⟨sa4,sc4,rfl,hs4,hl4,hg4⟩
    have HS4:Hid (br w4 (.slice sa4 (sl2+1+1) sc4) (s++[⟨kind,key,body,delim,past,nn,src⟩]++[fL kk])/\aj w2 w4/\∀g,(Value.slice sa4 (sl2+1+1) sc4).ownBlock=some g->w2.heap.size<=g):=⟨hs4,HS3.out.2.trans hl4,fun g hg=>Nat.le_trans HS3.out.2.size (hg4 g hg)⟩
    clear hs4 hl4 hg4
    go_wp2
    have hR:=HWR.out.next HXX.out.2 HT1.out HFAR.out [⟨kind,key,body,delim,past,nn,src⟩] (by simp) (fun o ho=>by simp only [List.mem_singleton] at ho;subst ho;exact HBI.out.1) (HK8.out _) HS4.out.1 HO2.out.1 HS4.out.2.1 HO2.out.2.1 HS4.out.2.2
    rw [List.length_append,HSL.out] at hR
    exact ⟨⟨i+1,sl2+1,_,by go_num,by go_num,hR⟩,by simp [intOf];omega⟩
   ·go_wp2_with (at_builtin;refine HAP.out _ _ _ _ rfl _ _ rfl rfl rfl ?_;intro v2 w2 ho2 hg2;obtain ⟨va2,vc2,rfl,-⟩:=aH ho2;have c4b:=HNE.out _ hg2;have HO2:Hid (w2.ownsRow w.heap.size 41 3 (.slice va2 (q+m) vc2) (q+m) (aq (x.all.take ((i+1) * m)))/\aj w w2/\br w2 (.slice sa sl2 scap) s):=⟨ho2,HL2.out _ hg2,HSC.out _ hg2⟩;clear ho2 hg2)
    refine (HKW.out w2 sa sl2 scap s (fL kk) HSL.out HO2.out.2.2 H8Z.out (by omega)).mono ?_
    rintro e w4 ⟨sa4,sc4,rfl,hs4,hl4,hg4⟩
    have HS4:Hid (br w4 (.slice sa4 (sl2+1) sc4) (s++[]++[fL kk])/\aj w2 w4/\∀g,(Value.slice sa4 (sl2+1) sc4).ownBlock=some g->w2.heap.size<=g):=⟨by rw [List.append_nil];exact hs4,hl4,hg4⟩
    clear hs4 hl4 hg4
    go_wp2
    have hR:=HWR.out.next HXX.out.2 HT1.out HFAR.out [] (by simp) (fun o ho=>by simp at ho) (HK8.out _) HS4.out.1 HO2.out.1 HS4.out.2.1 HO2.out.2.1 HS4.out.2.2
    rw [List.append_nil,HSL.out] at hR
    exact ⟨⟨i+1,sl2,_,by go_num,by go_num,hR⟩,by simp [intOf];omega⟩
end
end Go.Proofs.YtnapepbdohidgaaGreatDoorQ
