/- Part of a proof. -/
import Derived.Test.YtnapepbdohidgaaGreatDoorQM36
import Derived.Laws.AppendOwn
set_option maxHeartbeats 4000000
set_option maxRecDepth 100000
namespace Go.Proofs.YtnapepbdohidgaaGreatDoorQ
section
open Go
theorem na (L:Nat):∀ (r c:Nat),c<=L+(L+768) / 4->Builtin.growBy L r c<=L+(L+768) / 4
 | 0,c,h=>h
 |r+1,c,h=>by
  unfold Builtin.growBy;split
  ·exact h
  ·exact na L r _ (by omega)
theorem rv {need old:Nat}(h:old<need):Builtin.nextslicecap need old<=need+(need+768) / 4+512:=by
 unfold Builtin.nextslicecap;split
 ·omega
 ·split
  ·omega
  ·have:=na need 4 old (by omega);omega
section
variable {P:Program} {w:World} {base:Nat} {t ty e:TypeId} {i:TypeInfo} {z:Value} {size bytes:Nat}
theorem ol (hzs:z.cells.size=size)(hbase:base<=w.heap.size){xs:List Value}{k cap:Nat}(hl:xs.length=k * size)(hk:k<=cap)(hc:cap<=maxLen)(row:Option Nat):
  (w.drew.alloc (.cells (xs.toArray++Builtin.zeroCells z.cells (cap-k)) e)).ownsRow base e size (.slice (some ⟨w.heap.size,0,none⟩) k cap) k xs/\w.grownBy (w.drew.alloc (.cells (xs.toArray++Builtin.zeroCells z.cells (cap-k)) e)) row:=by
 constructor
 ·refine ⟨hl,.inr ⟨w.heap.size,cap,_,rfl,hbase,heap_alloc_new w.drew _,hk,hc,?_,?_⟩⟩
  ·rw [Array.size_append,size_zeroCells,hzs,List.size_toArray,hl,<-Nat.add_mul];congr 1;omega
  ·rw [<-hl,Array.toList_append];exact List.take_left
 ·exact ⟨rfl,rfl,rfl,by simp,fun b hb _=>heap_alloc_old w.drew _ hb⟩
theorem wP (ht:P.underlying t=some (.slice e))(hi:P.info? e=some i)(hz:i.zero=some z)(hsize:i.size=size)(hby:i.bytes=bytes)(hzs:z.cells.size=size)
  {v:Value} {n:Nat} {xs:List Value} (hown:w.ownsRow base e size v n xs) {a:Addr} {m c:Nat} {news:List Value} (hl:news.length=m * size) (hnews:∀j u,news[j]?=some u->w.cell? (a.add j)=some u) (h1:∀u∈news,u.oneCell'=true)
  (h63:n+m<=maxLen) (hb:(n+m+(n+m+768) / 4+512) * bytes<=281474976710656) (hbase:base<=w.heap.size) (hm:0<m):
  ∃v' w',(Builtin.append_ #[t,t] ty #[v,.slice (some a) m c]).run P w=.ok v' w'/\w'.ownsRow base e size v' (n+m) (xs++news)/\w.grownBy w' v.ownBlock:=by
 subst hsize hby;have hs:((n+m:Nat):Int)<=9223372036854775807:=by simp only [maxLen] at h63;omega
 have hcap:∀old,n+m<=grownCap w (n+m) old e/\grownCap w (n+m) old e<=maxLen:=fun old=>⟨grownCap_ge w _ old e,grownCap_le_maxLen w _ old e h63⟩
 have hlen:(xs++news).length=(n+m) * i.size:=by rw [lP,hown.1,hl,Nat.add_mul]
 have hle:(n+m) * i.bytes<=281474976710656:=lT (Nat.mul_le_mul_right _ (by omega)) hb;have hown':=hown;obtain ⟨hxl,⟨rfl,rfl⟩|⟨g,cap,cur,rfl,hbg,hg,hnc,hcm,hcs,htk⟩⟩:=hown
 ·obtain rfl:xs=[]:=List.eq_nil_of_length_eq_zero (by simpa using hxl);simp only [zA,List.nil_append] at *;have hr:=run_append_nil (P:=P) w t ty e i z ht hi hz a m c news hl hnews hm hs hle;obtain ⟨q1,q2⟩:=ol (w:=w) (e:=e) hzs hbase (xs:=news) hlen (hcap 0).1 (hcap 0).2 (Value.ownBlock (.slice none 0 0));exact ⟨_,_,hr,q1,q2⟩
 ·by_cases hroom:n+m<=cap
  ·have hfit:n * i.size+news.length<=cur.size:=by rw [hl,hcs,<-Nat.add_mul];exact Nat.mul_le_mul_right _ hroom
   refine ⟨_,_,run_append_room (P:=P) w t ty e i ht hi g n cap cur hg a m c news hl hnews h1 hroom hfit,⟨hlen,.inr ⟨g,cap,_,rfl,hbg,setRow_heap w g cur _ e _ hg,hroom,hcm,?_,?_⟩⟩,rfl,rfl,rfl,by simp,fun k _ hk=>setRow_other w g k _ (fun h=>hk (by rw [h];rfl))⟩
   ·have h3:=cur.length_toList;simp;omega
   ·rw [htk,<-hlen];exact List.take_left
  ·have hcell:=hown'.cells (g:=g) rfl;have hr:=run_append_grow (P:=P) w t ty e i z ht hi hz ⟨g,0,none⟩ n cap xs hxl hcell a m c news hl hnews (by omega) hs (lT (Nat.mul_le_mul_right _ (rv (by omega))) hb);obtain ⟨q1,q2⟩:=ol (w:=w) (e:=e) hzs hbase (xs:=xs++news) hlen (hcap cap).1 (hcap cap).2 (Value.ownBlock (.slice (some ⟨g,0,none⟩) n cap));rw [<-List.append_toArray] at q1 q2;exact ⟨_,_,hr,q1,q2⟩
theorem dL {ops:Array Oper}{rest:List Oper}{o:Oper}{b:Act}{Q:Exit->Act->World->Prop}(hgd:o.guard=none)(s x:Operand)(ho:o.op=.call {callee:=.builtin .append,args:=#[s,x],argTypes:=#[t,t]})
  (ht:P.underlying t=some (.slice e)) (hi:P.info? e=some i) (hz:i.zero=some z) (hsize:i.size=size) (hby:i.bytes=bytes) (hzs:z.cells.size=size)
  {v:Value} {n:Nat} {xs:List Value} (hs:b.eval s=v) (hown:w.ownsRow base e size v n xs) {a:Addr} {m c:Nat} {news:List Value} (hx:b.eval x=.slice (some a) m c) (hl:news.length=m * size) (hnews:∀j u,news[j]?=some u->w.cell? (a.add j)=some u) (h1:∀u∈news,u.oneCell'=true)
  (h63:n+m<=maxLen) (hb:(n+m+(n+m+768) / 4+512) * bytes<=281474976710656) (hbase:base<=w.heap.size) (hm:0<m)
  (h:∀v' w',w'.ownsRow base e size v' (n+m) (xs++news)->w.grownBy w' v.ownBlock->wpList P ops Q rest (b.put o.dst v') w'):wpList P ops Q (o::rest) b w:=by
 refine wpList_plain hgd fun K hK=>?_
 obtain ⟨v',w',hr,h2,h3⟩:=wP (ty:=o.type) ht hi hz hsize hby hzs hown hl hnews h1 h63 hb hbase hm (c:=c);unfold Oper.wp execOp;simp only [ho,resolve,invoke,builtin,Sem.run_bind,Sem.run_pure,Result.andThen_ok,List.map_toArray,List.map_cons,List.map_nil,hs,hx,hr];exact hK _ _ (h v' w' h2 h3)
end
end
section
open Go.RowKit
def cF (ops:List OpD):List OpD:=ops.filter fun o=>o.kind != 12
theorem j6 (ops:List OpD):(cF ops).length<=ops.length:=List.length_filter_le _ _
theorem rx (a:Option Addr)(n cap:Nat)(ops:List OpD)(w:World)(h:dJ w (.slice a n cap) ops)(hn:n * 88<=140737488351232):
  Calls Yq.prog 17 #[.slice a n cap] w fun e w'=>∃v',e=.returned v'/\w'.ownsRow w.heap.size 31 7 v' (cF ops).length ((cF ops).flatMap aH)/\Below w.heap.size w w':=by
 obtain ⟨i0,hi0,hz0,hz1,hz2⟩:=info_parts Yq.infoOp;have hnl:n=ops.length:=by
  obtain ⟨a',cap',he,_⟩:=h.form;cases he;rfl
 have HS:Hid (dJ w (.slice a n cap) ops/\n=ops.length):=⟨h,hnl⟩;clear h hnl;go_enter Yq.func17,Tryz.ntmps17;go_wp2_with fail
 go_loopw [3,4] (fun s3 s4 wr=>∃i:Nat,i<=n/\s4=.int .i64 i/\wr.ownsRow w.heap.size 31 7 s3 (cF (ops.take i)).length ((cF (ops.take i)).flatMap aH)/\Below w.heap.size w wr) (fun _ s4 _=>n-(intOf s4).toNat)
 case atStart=>exact ⟨0,Nat.zero_le _,rfl,World.ownsRow_nil _ _ _ _,Below.refl _ _⟩
 case round=>
  obtain ⟨i,hin,rfl,hown,hb⟩:=hrel;obtain ⟨va,vc,rfl,-⟩:=ax hown;by_cases hlt:i<n
  ·have hlo:i<ops.length:=by rw [<-HS.out.2];exact hlt
   have hne:ops≠[]:=by intro e;rw [e] at hlo;simp at hlo
   obtain ⟨a',cap',he,hx⟩:=HS.out.1.form;obtain ⟨b,off,ha,hSc⟩:=hx hne;subst ha;cases he;obtain ⟨c0,c1,c2,c3,c4,c5,c6⟩:=hSc i hlo;replace c0:=aj hb c0;replace c1:=aj hb c1;replace c2:=aj hb c2;replace c3:=aj hb c3;replace c4:=aj hb c4;replace c5:=aj hb c5;replace c6:=aj hb c6;have HTK:Hid (cF (ops.take (i+1))=cF (ops.take i)++(if ops[i].kind=12 then [] else [ops[i]])):=show cF (ops.take (i+1))=_ by
    rw [tS hlo];unfold cF;rw [List.filter_append];by_cases hk:ops[i].kind=12<;>simp [hk]
   have hle:(cF (ops.take i)).length<=i:=by have:=j6 (ops.take i);rw [tL] at this;omega
   generalize ops[i]=o at *;obtain ⟨kind,key,body,delim,past,nn,src⟩:=o;simp only at c0 c1 c2 c3 c4 c5 c6 HTK;have HX:Hid (wr.ownsRow w.heap.size 31 7 (.slice va (cF (ops.take i)).length vc) (cF (ops.take i)).length ((cF (ops.take i)).flatMap aH)/\Below w.heap.size w wr):=⟨hown,hb⟩;clear hown hb hSc hx;by_cases hk:kind=12
   ·subst hk;rw [if_pos rfl,List.append_nil] at HTK;go_wp2_with fail
    refine ⟨⟨i+1,by omega,by go_num,?_,HX.out.2⟩,by simp [intOf];omega⟩;rw [HTK.out];exact HX.out.1
   ·have hk':(kind != 12)=true:=by simp [hk]
    rw [if_neg hk] at HTK;generalize hm:(cF (ops.take i)).length=m at *;have HMM:Hid ((cF (ops.take i)).length=m):=hm;clear hm;go_wp2_with (at_builtin;refine wpList_append_own _ rfl _ _ 22 rfl w.heap.size 31 i0 _ 7 88 Yq.underlying22 hi0 hz0 hz1 hz2 rfl (by decide) _ m _ rfl (HX.out.1.alloc _) ⟨wr.heap.size,0,none⟩ 1 1 (aH ⟨kind,key,body,delim,past,nn,src⟩) rfl rfl (wC wr ⟨kind,key,body,delim,past,nn,src⟩ _) (one7 _) (by simp only [maxLen];omega) (by omega) (by have:=HX.out.2.size;simp;omega) ?_;intro v2 w2 ho2 hg2 _)
    have b2:Below w.heap.size w w2:=(HX.out.2.alloc HX.out.2.size _).grown hg2 (by have:=HX.out.2.size;simp;omega) (fun k e=>(HX.out.1.lt k e).1);refine ⟨⟨i+1,by omega,by go_num,?_,b2⟩,by simp [intOf];omega⟩;rw [HTK.out];rw [lP,HMM.out,List.flatMap_append];simpa using ho2
  ·have hie:i=n:=by omega
   subst hie;have HT:Hid (ops.take i=ops):=List.take_of_length_le (by rw [<-HS.out.2];exact lR _);have HO:Hid (wr.ownsRow w.heap.size 31 7 (.slice va (cF (ops.take i)).length vc) (cF (ops.take i)).length ((cF (ops.take i)).flatMap aH)/\Below w.heap.size w wr):=⟨hown,hb⟩;clear hown hb;go_wp2;go_ret;refine ⟨_,rfl,?_,HO.out.2⟩;have:=HO.out.1;rw [HT.out] at this;rw [HT.out];exact this
theorem ry (v:Value)(ops:List OpD)(mb m:Nat)(more:List OpD)(w:World)(h:dJ w v ops)(hm:dJ w (.slice (some ⟨mb,0,none⟩) m m) more)(hn:ops.length+m<=2199023255552)(h0:0<m):
  Calls Yq.prog 19 #[v,.slice (some ⟨mb,0,none⟩) m m] w fun e w'=>∃v',e=.returned v'/\w'.ownsRow w.heap.size 31 7 v' (ops.length+m) ((ops++more).flatMap aH)/\Below w.heap.size w w':=by
 obtain ⟨i0,hi0,hz0,hz1,hz2⟩:=info_parts Yq.infoOp;have hmm:m=more.length:=by
  obtain ⟨a',cap',he,_⟩:=hm.form;cases he;rfl
 have hms:∀j u,(more.flatMap aH)[j]?=some u->w.cell? ((⟨mb,0,none⟩:Addr).add j)=some u:=by
  rcases yX hm with ⟨c,he,_⟩|⟨ad,c,he,hx⟩
  ·cases he
  ·cases he;exact hx
 have HM:Hid (∀j u,(more.flatMap aH)[j]?=some u->w.cell? ((⟨mb,0,none⟩:Addr).add j)=some u):=hms;have HMM:Hid (m=more.length):=hmm;clear hmm hms hm;rcases yX h with ⟨c,rfl,rfl⟩|⟨ad,c,rfl,hsrc⟩
 ·clear h;go_enter Yq.func19,Tryz.ntmps19;go_wp2_with (at_builtin;refine dL rfl _ _ rfl Yq.underlying22 hi0 hz0 hz1 hz2 rfl rfl (World.ownsRow_nil _ w.heap.size _ _) rfl (news:=more.flatMap aH) (by rw [ff,HMM.out]) HM.out (gX more) (by simp only [maxLen];omega) (by omega) (lR _) h0 ?_;intro v1 w1 ho1 hg1)
  obtain ⟨va,vc,rfl,-⟩:=ax ho1;go_wp2;go_ret;refine ⟨_,rfl,by simpa using ho1,(Below.refl _ w).grown (row:=none) hg1 (lR _) (fun k e=>by cases e)⟩
 ·have HSR:Hid (∀j u,(ops.flatMap aH)[j]?=some u->w.cell? (ad.add j)=some u):=hsrc;clear h hsrc;generalize hop:ops.length=n at *;have HN:Hid (ops.length=n):=hop;clear hop;have HAP:Hid (∀ (os:Array Oper) (rest:List Oper) (o:Oper) (b:Act) (_:o.guard=none) (s x:Operand) (_:o.op=.call {callee:=.builtin .append,args:=#[s,x],argTypes:=#[22,22]}) (_:b.eval s=.slice none 0 0) (_:b.eval x=.slice (some ad) n c) {Q:Exit->Act->World->Prop},(∀v1 w1,w1.ownsRow w.heap.size 31 7 v1 n (ops.flatMap aH)->w.grownBy w1 none->wpList Yq.prog os Q rest (b.put o.dst v1) w1)->wpList Yq.prog os Q (o::rest) b w):=fun os rest o b g1 s x g2 g3 g4 Q hK=>by
   by_cases hz:n=0
   ·have he:ops=[]:=List.length_eq_zero_iff.1 (HN.out.trans hz);subst he hz;refine wpList_append_own w g1 s x 22 g2 w.heap.size 31 i0 _ 7 88 Yq.underlying22 hi0 hz0 hz1 hz2 rfl (by decide) _ 0 [] g3 (World.ownsRow_nil _ _ _ _) ad 0 c [] g4 rfl (fun j u hj=>by simp at hj) (fun u hu=>by simp at hu) (by simp only [maxLen];omega) (by omega) (lR _) (fun v' w' k1 k2 _=>hK v' w' k1 k2)
   ·exact dL g1 s x g2 Yq.underlying22 hi0 hz0 hz1 hz2 rfl g3 (World.ownsRow_nil _ w.heap.size _ _) g4 (news:=ops.flatMap aH) (by rw [ff,HN.out]) HSR.out (gX ops) (by simp only [maxLen];omega) (by omega) (lR _) (by omega) (fun v' w' k1 k2=>hK v' w' (by simpa using k1) k2)
  go_enter Yq.func19,Tryz.ntmps19
  go_upto_region 3 with (at_builtin;refine HAP.out _ _ _ _ rfl _ _ rfl rfl rfl ?_;intro v1 w1 ho1 hg1;obtain ⟨va,vc,rfl,-⟩:=ax ho1)
  have b1:Below w.heap.size w w1:=(Below.refl _ w).grown (row:=none) hg1 (lR _) (fun k e=>by cases e);have HO:Hid (w1.ownsRow w.heap.size 31 7 (.slice va n vc) n (ops.flatMap aH)/\Below w.heap.size w w1):=⟨by simpa using ho1,b1⟩;clear ho1 hg1 b1;go_wp2_with (at_builtin;refine dL rfl _ _ rfl Yq.underlying22 hi0 hz0 hz1 hz2 rfl rfl HO.out.1 rfl (news:=more.flatMap aH) (by rw [ff,HMM.out]) (fun j u hj=>aj HO.out.2 (HM.out j u hj)) (gX more) (by simp only [maxLen];omega) (by omega) HO.out.2.size h0 ?_;intro v2 w2 ho2 hg2)
  obtain ⟨va2,vc2,rfl,-⟩:=ax ho2;go_wp2;go_ret;refine ⟨_,rfl,?_,HO.out.2.grown hg2 HO.out.2.size (fun k e=>(HO.out.1.lt k e).1)⟩;rw [List.flatMap_append];simpa using ho2
def eB:ByteArray:=⟨#[]⟩
def fL (kind:Int)(key body:ByteArray)(n:Int):OpD:=⟨kind,key,body,eB,eB,n,0⟩
theorem D8 {st:St}{s:Nat}(h:Inv st s)(k:List UInt8):∀x∈st.f k,x.num<=st.last:=by
 intro x hx;obtain ⟨i,hi,e⟩:=List.getElem_of_mem hx;have:=(h.bounds k i hi).2;rw [jR hi,e] at this;exact this
theorem g9 {h:List Ver}{L n:Int}(hle:∀x∈h,x.num<=L)(hn:L<n)(r:List Ver):bA (h++r) n=(bA r n).map (·+h.length):=by
 unfold bA;rw [List.findIdx?_append];have e:List.findIdx? (fun v=>v.num==n) h=none:=by
  rw [List.findIdx?_eq_none_iff];intro x hx;have:=hle x hx;simp;omega
 rw [e];simp
theorem py {st:St}{key body:ByteArray}(hk:aJ key=true)(hb:body.size<=100)(hc:¬200<=st.count):aB st (fL 1 key body 0)=(dj st key body false,⟨0,st.last+1,eB⟩):=by
 simp [aB,fL,hk,hc,eB];omega
theorem pz {st:St}{key body:ByteArray}(hk:aJ key=true)(hb:body.size<=100)(hc:200<=st.count):aB st (fL 1 key body 0)=(st,⟨4,0,eB⟩):=by
 simp [aB,fL,hk,hc,eB];omega
theorem rz {st:St}{key:ByteArray}(hk:aJ key=true)(hc:¬200<=st.count):aB st (fL 4 key eB 0)=(dj st key eB true,⟨0,st.last+1,eB⟩):=by
 simp [aB,fL,hk,hc,eB]
theorem nu {st:St}{key:ByteArray}(hk:aJ key=true)(hc:200<=st.count):aB st (fL 4 key eB 0)=(st,⟨4,0,eB⟩):=by
 simp [aB,fL,hk,hc,eB]
theorem pA {st:St}{key:ByteArray}{v:Ver}(hk:aJ key=true)(hl:(st.f key.data.toList).getLast?=some v):aB st (fL 2 key eB 0)=(st,if v.mark then ⟨5,0,eB⟩ else ⟨0,v.num,v.body⟩):=by
 cases hm:v.mark<;>simp [aB,fL,hk,hl,hm,eB]
theorem rA {st:St}{key:ByteArray}{n:Int}{r:Nat}{v:Ver}(hk:aJ key=true)(hp:bA (st.f key.data.toList) n=some r)(hv:(st.f key.data.toList)[r]?=some v):aB st (fL 3 key eB n)=(st,if v.mark then ⟨6,0,eB⟩ else ⟨0,0,v.body⟩):=by
 cases hm:v.mark<;>simp [aB,fL,hk,hp,hv,hm,eB]
theorem wQ {st:St}{key:ByteArray}{n:Int}{r:Nat}(hk:aJ key=true)(hp:bA (st.f key.data.toList) n=some r):aB st (fL 5 key eB n)=(cn st key r,⟨0,0,eB⟩):=by
 simp [aB,fL,hk,hp,eB]
theorem nb {st:St}{key:ByteArray}{n:Int}(hk:aJ key=true)(hp:bA (st.f key.data.toList) n=none):aB st (fL 5 key eB n)=(st,⟨5,0,eB⟩):=by
 simp [aB,fL,hk,hp,eB]
theorem Dm (st:St)(key body:ByteArray)(m:Bool):(dj st key body m).f key.data.toList=st.f key.data.toList++[⟨st.last+1,body,m⟩]:=by simp [dj,upd]
theorem D9 (st:St)(key:ByteArray)(r:Nat):(cn st key r).f key.data.toList=(st.f key.data.toList).take r++(st.f key.data.toList).drop (r+1):=by simp [cn,upd]
def nf (key body:ByteArray):List OpD:=[fL 1 key body 0,fL 2 key eB 0,fL 4 key eB 0]
def pB (key body:ByteArray)(v d:Int):List OpD:=[fL 1 key body 0,fL 4 key eB 0,fL 2 key eB 0,fL 3 key eB v,fL 3 key eB d,fL 5 key eB d,fL 2 key eB 0,fL 5 key eB d]
theorem EK {st:St}{key body:ByteArray}(hk:aJ key=true)(hb:body.size<=100)(hc:¬200<=st.count):
  cC st (nf key body)=[⟨0,st.last+1,eB⟩,⟨0,st.last+1,body⟩,if 200<=st.count+1 then ⟨4,0,eB⟩ else ⟨0,st.last+2,eB⟩]:=by
 have h2:=pA (st:=dj st key body false) (v:=⟨st.last+1,body,false⟩) hk (by rw [Dm];simp);have hcc:(dj st key body false).count=st.count+1:=rfl;have hll:(dj st key body false).last=st.last+1:=rfl;by_cases h3:200<=st.count+1
 ·have h4:=nu (st:=dj st key body false) hk (by rw [hcc];exact h3);simp [nf,cC,py hk hb hc,h2,h4,h3]
 ·have h4:=rz (st:=dj st key body false) hk (by rw [hcc];exact h3);rw [hll,show st.last+1+1=st.last+2 by omega] at h4;simp [nf,cC,py hk hb hc,h2,h4,h3]
theorem zp {st:St}{key body:ByteArray}(hk:aJ key=true)(hb:body.size<=100)(hc:200<=st.count):∃x y,cC st (nf key body)=[⟨4,0,eB⟩,x,y]:=by
 simp only [nf,cC,pz hk hb hc];exact ⟨_,_,rfl⟩
theorem EL {st:St}{s:Nat}{key body:ByteArray}(hI:Inv st s)(hk:aJ key=true)(hb:body.size<=100)(hc:¬200<=st.count)(hc2:¬200<=st.count+1):
  cC st (pB key body (st.last+1) (st.last+2))=[⟨0,st.last+1,eB⟩,⟨0,st.last+2,eB⟩,⟨5,0,eB⟩,⟨0,0,body⟩,⟨6,0,eB⟩,⟨0,0,eB⟩,⟨0,st.last+1,body⟩,⟨5,0,eB⟩]:=by
 have hle:=D8 hI key.data.toList;obtain ⟨h,hh⟩:∃h,h=st.f key.data.toList:=⟨_,rfl⟩;rw [<-hh] at hle;obtain ⟨st1,hs1⟩:∃st1,st1=dj st key body false:=⟨_,rfl⟩;have f1:st1.f key.data.toList=h++[⟨st.last+1,body,false⟩]:=by rw [hs1,Dm,hh]
 have l1:st1.last=st.last+1:=by rw [hs1];rfl
 have c1:st1.count=st.count+1:=by rw [hs1];rfl
 obtain ⟨st2,hs2⟩:∃st2,st2=dj st1 key eB true:=⟨_,rfl⟩;have f2:st2.f key.data.toList=h++[⟨st.last+1,body,false⟩,⟨st.last+2,eB,true⟩]:=by
  rw [hs2,Dm,f1,l1,show st.last+1+1=st.last+2 by omega];simp
 have p1:bA (st2.f key.data.toList) (st.last+1)=some h.length:=by
  rw [f2,g9 hle (by omega)];simp [bA,List.findIdx?_cons]
 have p2:bA (st2.f key.data.toList) (st.last+2)=some (h.length+1):=by
  rw [f2,g9 hle (by omega)];simp [bA,List.findIdx?_cons]<;>omega
 obtain ⟨st3,hs3⟩:∃st3,st3=cn st2 key (h.length+1):=⟨_,rfl⟩;have f3:st3.f key.data.toList=h++[⟨st.last+1,body,false⟩]:=by
  rw [hs3,D9,f2];rw [show (h++[⟨st.last+1,body,false⟩,⟨st.last+2,eB,true⟩]:List Ver)=(h++[⟨st.last+1,body,false⟩])++[⟨st.last+2,eB,true⟩] by simp];rw [List.take_left' (by simp),List.drop_eq_nil_of_le (by simp),List.append_nil]
 have p3:bA (st3.f key.data.toList) (st.last+2)=none:=by
  rw [f3,g9 hle (by omega)];simp [bA,List.findIdx?_cons]<;>omega
 have e1:aB st (fL 1 key body 0)=(st1,⟨0,st.last+1,eB⟩):=by rw [hs1];exact py hk hb hc
 have e2:aB st1 (fL 4 key eB 0)=(st2,⟨0,st.last+2,eB⟩):=by
  have:=rz (st:=st1) hk (by rw [c1];exact hc2);rw [l1,show st.last+1+1=st.last+2 by omega,<-hs2] at this;exact this
 have e3:aB st2 (fL 2 key eB 0)=(st2,⟨5,0,eB⟩):=by
  have:=pA (st:=st2) (v:=⟨st.last+2,eB,true⟩) hk (by rw [f2];simp);simpa using this
 have e4:aB st2 (fL 3 key eB (st.last+1))=(st2,⟨0,0,body⟩):=by
  have:=rA (st:=st2) (v:=⟨st.last+1,body,false⟩) hk p1 (by rw [f2];simp);simpa using this
 have e5:aB st2 (fL 3 key eB (st.last+2))=(st2,⟨6,0,eB⟩):=by
  have:=rA (st:=st2) (v:=⟨st.last+2,eB,true⟩) hk p2 (by rw [f2,aR (by omega)];simp);simpa using this
 have e6:aB st2 (fL 5 key eB (st.last+2))=(st3,⟨0,0,eB⟩):=by rw [hs3];exact wQ hk p2
 have e7:aB st3 (fL 2 key eB 0)=(st3,⟨0,st.last+1,body⟩):=by
  have:=pA (st:=st3) (v:=⟨st.last+1,body,false⟩) hk (by rw [f3];simp);simpa using this
 have e8:aB st3 (fL 5 key eB (st.last+2))=(st3,⟨5,0,eB⟩):=nb hk p3;simp only [pB,cC,e1,e2,e3,e4,e5,e6,e7,e8]
end
section
open Go
open Go.Conc Go.ConcX Go.ConcX.Gen Go.RowKit
def toL (a:BN):kY:=⟨a.code,a.ver,a.body,[],⟨#[]⟩⟩
theorem zq (st:St)(L:Lg)(toks:List ByteArray)(o:OpD)(h:o.kind<6):stepA st L toks o=((aB st o).1,L,toL (aB st o).2):=by
 unfold stepA;rw [if_neg (by omega),if_neg (by omega),if_neg (by omega),if_neg (by omega),if_neg (by omega),if_neg (by omega)];rfl
theorem zr (ops:List OpD):∀ (d:Dk),(∀o∈ops,o.kind<6)->(ops.foldl m8 d).al=d.al++(cC d.st ops).map toL:=by
 induction ops with
 |nil=>intro d _;simp [cC]
 |cons o r ih=>
  intro d h;rw [List.foldl_cons,ih _ fun x hx=>h x (by simp [hx])];simp only [m8,zq _ _ _ o (h o (by simp)),cC,List.map_cons,List.append_assoc,List.singleton_append]
theorem uE (s more:List OpD)(h:∀o∈more,o.kind<6):(dv (s++more)).al=(dv s).al++(cC (dv s).st more).map toL:=by
 rw [dv,List.foldl_append];exact zr more _ h
def uF:List OpD:=[⟨1,⟨#[97]⟩,⟨#[120]⟩,⟨#[]⟩,⟨#[]⟩,0,0⟩,⟨1,⟨#[97]⟩,⟨#[121]⟩,⟨#[]⟩,⟨#[]⟩,0,0⟩,⟨4,⟨#[97]⟩,⟨#[]⟩,⟨#[]⟩,⟨#[]⟩,0,0⟩,⟨2,⟨#[97]⟩,⟨#[]⟩,⟨#[]⟩,⟨#[]⟩,0,0⟩,⟨5,⟨#[97]⟩,⟨#[]⟩,⟨#[]⟩,⟨#[]⟩,3,0⟩,⟨2,⟨#[97]⟩,⟨#[]⟩,⟨#[]⟩,⟨#[]⟩,0,0⟩,⟨2,⟨#[]⟩,⟨#[]⟩,⟨#[]⟩,⟨#[]⟩,0,0⟩]
theorem EM:(dv uF).al=[⟨0,1,⟨#[]⟩⟩,⟨0,2,⟨#[]⟩⟩,⟨0,3,⟨#[]⟩⟩,⟨5,0,⟨#[]⟩⟩,⟨0,0,⟨#[]⟩⟩,⟨0,2,⟨#[121]⟩⟩,⟨2,0,⟨#[]⟩⟩].map toL:=by
 have h:=uE [] uF (by decide);rw [List.nil_append] at h;rw [h];have e:cC (dv []).st uF=[⟨0,1,⟨#[]⟩⟩,⟨0,2,⟨#[]⟩⟩,⟨0,3,⟨#[]⟩⟩,⟨5,0,⟨#[]⟩⟩,⟨0,0,⟨#[]⟩⟩,⟨0,2,⟨#[121]⟩⟩,⟨2,0,⟨#[]⟩⟩]:=by kernel_rfl
 rw [e];rfl
theorem Dn:∀o∈uF,o.kind<=10:=by decide
theorem Ea:Sized uF:=by
 intro o ho;simp only [uF,List.mem_cons,List.not_mem_nil,or_false] at ho;rcases ho with rfl|rfl|rfl|rfl|rfl|rfl|rfl<;>exact ⟨by simp only [maxLen];decide,by simp only [maxLen];decide⟩
def uG (_:Qy):Prop:=True
def Eg (_:OpD):Prop:=True
def Eb (G:World->Prop)(N:Nat):Prop:=m7 uG Eg G N
theorem pC (o:OpD)(h:o.kind≠12):ju uG o/\Eg o:=⟨⟨h,fun _=>trivial,fun _=>trivial⟩,trivial⟩
theorem tC {G:World->Prop}{N:Nat}(hAns:Eb G N)(v:Value)(ops:List OpD)(w:World)(hG:∀w',ak w w'->G w')(h:dJ w v ops)(hne:ops≠[])(hn:ops.length<=N)(hN:N<2199023255540)(hk:∀o∈ops,o.kind≠12):
  Calls Yq.prog 18 #[v] w fun e w'=>D7 ops ops.length w e w'\/Stop uG e w':=
 (Bw uG Eg G N hAns v ops w hG h hne hn hN (fun o ho=>(pC o (hk o ho)).1) (fun o ho=>(pC o (hk o ho)).2)).mono fun _ _ h=>h.imp (fun h=>h.g _ rfl) id
theorem zt {G:World->Prop}{N:Nat}(hAns:Eb G N)(h7:7<=N)(hN:N<2199023255540)(w:World)(hG:∀w',ak w w'->G w'):Calls Yq.prog 16 #[] w fun e w'=>(e=.returned (.bool true)/\ak w w')\/Stop uG e w':=by
 have HR:Hid (∀W:World,ak w W->Calls Yq.prog 18 #[.slice (some ⟨W.heap.size,0,none⟩) 7 7] (W.alloc (.cells (uF.flatMap aH).toArray 31)) fun e w'=>D7 uF 7 (W.alloc (.cells (uF.flatMap aH).toArray 31)) e w'\/Stop uG e w'):=fun W hlW=>
  tC hAns _ uF _ (fun w' h=>hG w' ((hlW.alloc _).trans h)) (tq W uF _ _ rfl 7 rfl Ea (by simp [uF])) (by simp [uF]) (by simp [uF];omega) hN (fun o ho=>by have:=Dn o ho;omega)
 clear hAns hG;go_enter Yq.func16,Tryz.ntmps16;go_wp2_with fail
 refine (dK _ _ _ w).mono ?_;rintro e w1 ⟨rfl,b1⟩;go_wp2_with fail
 refine (dK _ _ _ w1).mono ?_;rintro e w2 ⟨rfl,b2⟩;replace b2:=b1.trans (b2.mono b1.size);go_wp2_with fail
 refine (dK _ _ _ w2).mono ?_;rintro e w3 ⟨rfl,b3⟩;replace b3:=b2.trans (b3.mono b2.size);go_wp2_with fail
 refine (dK _ _ _ w3).mono ?_;rintro e w4 ⟨rfl,b4⟩;replace b4:=b3.trans (b4.mono b3.size);go_wp2_with fail
 refine (dK _ _ _ w4).mono ?_;rintro e w5 ⟨rfl,b5⟩;replace b5:=b4.trans (b5.mono b4.size);go_wp2_with fail
 refine (dK _ _ _ w5).mono ?_;rintro e w6 ⟨rfl,b6⟩;replace b6:=b5.trans (b6.mono b5.size);clear b1 b2 b3 b4 b5;go_wp2_with fail
 refine (HR.out w6 (.below b6)).mono ?_;rintro e w8 (⟨g,A,zs,rfl,hal,hown,hrows,hl,hg⟩|hst)
 ·have HB:Hid (ak w w8):=((ak.below b6).alloc _).trans hl;rw [EM] at hal;simp only [List.map_cons,List.map_nil,toL] at hal;obtain ⟨v0,zs1,rfl,hal1⟩:=cQ hal;obtain ⟨v1,zs2,rfl,hal2⟩:=cQ hal1;obtain ⟨v2,zs3,rfl,hal3⟩:=cQ hal2;obtain ⟨v3,zs4,rfl,hal4⟩:=cQ hal3;obtain ⟨v4,zs5,rfl,hal5⟩:=cQ hal4;obtain ⟨v5,zs6,rfl,hal6⟩:=cQ hal5;obtain ⟨v6,zs7,rfl,hal7⟩:=cQ hal6;have hc:=hown;have c1:=hc 1 (by omega);have c11:=hc 11 (by omega);have c15:=hc 15 (by omega);have c20:=hc 20 (by omega);have c25:=hc 25 (by omega);have c26:=hc 26 (by omega);have c27:=hc 27 (by omega);have c30:=hc 30 (by omega);simp only [cj,List.flatMap_cons,List.cons_append,List.nil_append,gS,gZ] at c1 c11 c15 c20 c25 c26 c27 c30;clear hown hc hrows hl hal hal1 hal2 hal3 hal4 hal5 hal6 hal7 HR b6 hg;go_wp2;go_ret;exact .inl ⟨rfl,HB.out⟩
 ·obtain ⟨x,y,r,rfl,hst⟩:=hst;exact ⟨rfl,.inr ⟨x,y,r,rfl,hst⟩⟩
end
