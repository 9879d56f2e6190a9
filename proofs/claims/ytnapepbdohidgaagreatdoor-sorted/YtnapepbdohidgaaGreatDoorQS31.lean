/- A part. -/
import Derived.Test.YtnapepbdohidgaaGreatDoorQS30
import Derived.Laws.AppendOwn
set_option maxHeartbeats 4000000
set_option maxRecDepth 100000
open Go renaming World->Wz,Value->Wq
namespace Go.Proofs.Qw
section
open Go
theorem nI (L:Nat):∀ (r c:Nat),c<=L+(L+768) / 4->Builtin.growBy L r c<=L+(L+768) / 4
 | 0,c,h=>h
 |r+1,c,h=>by
  unfold Builtin.growBy;split
  .exact h
  .exact nI L r _ (by omega)
theorem r9 {need old:Nat}(h:old<need):Builtin.nextslicecap need old<=need+(need+768) / 4+512:=by
 unfold Builtin.nextslicecap;split
 .omega
 .split
  .omega
  .have:=nI need 4 old (by omega);omega
section
variable {P:Program} {w:Wz} {base:Nat} {t ty e:TypeId} {i:TypeInfo} {z:Wq} {size bytes:Nat}
theorem oO (hzs:z.cells.size=size)(hbase:base<=w.heap.size){xs:List Wq}{k cap:Nat}(hl:xs.length=k * size)(hk:k<=cap)(hc:cap<=maxLen)(row:Option Nat):
  (w.drew.alloc (.cells (xs.toArray++Builtin.zeroCells z.cells (cap-k)) e)).ownsRow base e size (.slice (some ⟨w.heap.size,0,none⟩) k cap) k xs/\w.grownBy (w.drew.alloc (.cells (xs.toArray++Builtin.zeroCells z.cells (cap-k)) e)) row:=by
 constructor
 .refine ⟨hl,.inr ⟨w.heap.size,cap,_,rfl,hbase,heap_alloc_new w.drew _,hk,hc,?_,?_⟩⟩
  .rw [Array.size_append,size_zeroCells,hzs,lZ,hl,<-Nat.add_mul];congr 1;omega
  .rw [<-hl,Array.toList_append];exact List.take_left
 .exact ⟨rfl,rfl,rfl,by simp,fun b hb _=>heap_alloc_old w.drew _ hb⟩
theorem xM (ht:P.underlying t=some (.slice e))(hi:P.info? e=some i)(hz:i.zero=some z)(hsize:i.size=size)(hby:i.bytes=bytes)(hzs:z.cells.size=size)
  {v:Wq} {n:Nat} {xs:List Wq} (hown:w.ownsRow base e size v n xs) {a:Addr} {m c:Nat} {news:List Wq} (hl:news.length=m * size) (hnews:∀j u,news[j]?=some u->w.cell? (a.add j)=some u) (h1:∀u∈news,u.oneCell'=true)
  (h63:n+m<=maxLen) (hb:(n+m+(n+m+768) / 4+512) * bytes<=281474976710656) (hbase:base<=w.heap.size) (hm:0<m):
  ∃v' w',(Builtin.append_ #[t,t] ty #[v,.slice (some a) m c]).run P w=.ok v' w'/\w'.ownsRow base e size v' (n+m) (xs++news)/\w.grownBy w' v.ownBlock:=by
 subst hsize hby;have hs:((n+m:Nat):Int)<=9223372036854775807:=by simp only [maxLen] at h63;omega
 have hcap:∀old,n+m<=grownCap w (n+m) old e/\grownCap w (n+m) old e<=maxLen:=fun old=>⟨grownCap_ge w _ old e,grownCap_le_maxLen w _ old e h63⟩
 have hlen:(xs++news).length=(n+m) * i.size:=by rw [lP,hown.1,hl,Nat.add_mul]
 have hle:(n+m) * i.bytes<=281474976710656:=lT (Nat.mul_le_mul_right _ (by omega)) hb;have hown':=hown;obtain ⟨hxl,⟨rfl,rfl⟩|⟨g,cap,cur,rfl,hbg,hg,hnc,hcm,hcs,htk⟩⟩:=hown
 .obtain rfl:xs=[]:=List.eq_nil_of_length_eq_zero (by simpa using hxl);simp only [zA,List.nil_append] at *;have hr:=run_append_nil (P:=P) w t ty e i z ht hi hz a m c news hl hnews hm hs hle;obtain ⟨q1,q2⟩:=oO (w:=w) (e:=e) hzs hbase (xs:=news) hlen (hcap 0).1 (hcap 0).2 (Value.ownBlock (.slice none 0 0));exact ⟨_,_,hr,q1,q2⟩
 .by_cases hroom:n+m<=cap
  .have hfit:n * i.size+news.length<=cur.size:=by rw [hl,hcs,<-Nat.add_mul];exact Nat.mul_le_mul_right _ hroom
   refine ⟨_,_,run_append_room (P:=P) w t ty e i ht hi g n cap cur hg a m c news hl hnews h1 hroom hfit,⟨hlen,.inr ⟨g,cap,_,rfl,hbg,setRow_heap w g cur _ e _ hg,hroom,hcm,?_,?_⟩⟩,rfl,rfl,rfl,by simp,fun k _ hk=>setRow_other w g k _ (fun h=>hk (by rw [h];rfl))⟩
   .have h3:=cur.length_toList;simp;omega
   .rw [htk,<-hlen];exact List.take_left
  .have hcell:=hown'.cells (g:=g) rfl;have hr:=run_append_grow (P:=P) w t ty e i z ht hi hz ⟨g,0,none⟩ n cap xs hxl hcell a m c news hl hnews (by omega) hs (lT (Nat.mul_le_mul_right _ (r9 (by omega))) hb);obtain ⟨q1,q2⟩:=oO (w:=w) (e:=e) hzs hbase (xs:=xs++news) hlen (hcap cap).1 (hcap cap).2 (Value.ownBlock (.slice (some ⟨g,0,none⟩) n cap));rw [<-List.append_toArray] at q1 q2;exact ⟨_,_,hr,q1,q2⟩
theorem dS {ops:Array Oper}{rest:List Oper}{o:Oper}{b:Act}{Q:Exit->Act->Wz->Prop}(hgd:o.guard=none)(s x:Operand)(ho:o.op=.call {callee:=.builtin .append,args:=#[s,x],argTypes:=#[t,t]})
  (ht:P.underlying t=some (.slice e)) (hi:P.info? e=some i) (hz:i.zero=some z) (hsize:i.size=size) (hby:i.bytes=bytes) (hzs:z.cells.size=size)
  {v:Wq} {n:Nat} {xs:List Wq} (hs:b.eval s=v) (hown:w.ownsRow base e size v n xs) {a:Addr} {m c:Nat} {news:List Wq} (hx:b.eval x=.slice (some a) m c) (hl:news.length=m * size) (hnews:∀j u,news[j]?=some u->w.cell? (a.add j)=some u) (h1:∀u∈news,u.oneCell'=true)
  (h63:n+m<=maxLen) (hb:(n+m+(n+m+768) / 4+512) * bytes<=281474976710656) (hbase:base<=w.heap.size) (hm:0<m)
  (h:∀v' w',w'.ownsRow base e size v' (n+m) (xs++news)->w.grownBy w' v.ownBlock->wpList P ops Q rest (b.put o.dst v') w'):wpList P ops Q (o::rest) b w:=by
 refine wpList_plain hgd fun K hK=>?_
 obtain ⟨v',w',hr,h2,h3⟩:=xM (ty:=o.type) ht hi hz hsize hby hzs hown hl hnews h1 h63 hb hbase hm (c:=c);unfold Oper.wp execOp;simp only [ho,resolve,invoke,builtin,Sem.run_bind,Sem.run_pure,Result.andThen_ok,List.map_toArray,List.map_cons,List.map_nil,hs,hx,hr];exact hK _ _ (h v' w' h2 h3)
end
end
section
open Go.RowKit
def cN (ops:List OpD):List OpD:=ops.filter fun o=>o.kind != 12
theorem kG (ops:List OpD):(cN ops).length<=ops.length:=List.length_filter_le _ _
theorem sa (a:Option Addr)(n cap:Nat)(ops:List OpD)(w:Wz)(h:dZ w (.slice a n cap) ops)(hn:n * 88<=140737488351232):
  Calls Yq.prog 17 #[.slice a n cap] w fun e w'=>∃v',e=.returned v'/\w'.ownsRow w.heap.size 31 7 v' (cN ops).length ((cN ops).flatMap aK)/\Below w.heap.size w w':=by
 obtain ⟨i0,hi0,hz0,hz1,hz2⟩:=info_parts Yq.infoOp;have hnl:n=ops.length:=by
  obtain ⟨a',cap',he,_⟩:=h.form;cases he;rfl
 have HS:Hid (dZ w (.slice a n cap) ops/\n=ops.length):=⟨h,hnl⟩;clear h hnl;go_enter (Yq.nq Tryz.func17),Tryz.ntmps17;go_wp2_with fail
 go_loopw [3,4] (fun s3 s4 wr=>∃i:Nat,i<=n/\s4=.int .i64 i/\wr.ownsRow w.heap.size 31 7 s3 (cN (ops.take i)).length ((cN (ops.take i)).flatMap aK)/\Below w.heap.size w wr) (fun _ s4 _=>n-(intOf s4).toNat)
 case atStart=>exact ⟨0,Nat.zero_le _,rfl,World.ownsRow_nil _ _ _ _,bR _ _⟩
 case round=>
  obtain ⟨i,hin,rfl,hown,hb⟩:=hrel;obtain ⟨va,vc,rfl,-⟩:=ay hown;by_cases hlt:i<n
  .have hlo:i<ops.length:=by rw [<-HS.out.2];exact hlt
   have hne:ops≠[]:=by intro e;rw [e] at hlo;simp at hlo
   obtain ⟨a',cap',he,hx⟩:=HS.out.1.form;obtain ⟨b,off,ha,hSc⟩:=hx hne;subst ha;cases he;obtain ⟨c0,c1,c2,c3,c4,c5,c6⟩:=hSc i hlo;replace c0:=ak hb c0;replace c1:=ak hb c1;replace c2:=ak hb c2;replace c3:=ak hb c3;replace c4:=ak hb c4;replace c5:=ak hb c5;replace c6:=ak hb c6;have HTK:Hid (cN (ops.take (i+1))=cN (ops.take i)++(if ops[i].kind=12 then [] else [ops[i]])):=show cN (ops.take (i+1))=_ by
    rw [tS hlo];unfold cN;rw [List.filter_append];by_cases hk:ops[i].kind=12<;>simp [hk]
   have hle:(cN (ops.take i)).length<=i:=by have:=kG (ops.take i);rw [tL] at this;omega
   generalize ops[i]=o at *;obtain ⟨kind,key,body,delim,past,nn,src⟩:=o;simp only at c0 c1 c2 c3 c4 c5 c6 HTK;have HX:Hid (wr.ownsRow w.heap.size 31 7 (.slice va (cN (ops.take i)).length vc) (cN (ops.take i)).length ((cN (ops.take i)).flatMap aK)/\Below w.heap.size w wr):=⟨hown,hb⟩;clear hown hb hSc hx;by_cases hk:kind=12
   .subst hk;rw [if_pos rfl,List.append_nil] at HTK;go_wp2_with fail
    refine ⟨⟨i+1,by omega,by go_num,?_,HX.out.2⟩,by simp [intOf];omega⟩;rw [HTK.out];exact HX.out.1
   .have hk':(kind != 12)=true:=by simp [hk]
    rw [if_neg hk] at HTK;generalize hm:(cN (ops.take i)).length=m at *;have HMM:Hid ((cN (ops.take i)).length=m):=hm;clear hm;go_wp2_with (at_builtin;refine wpList_append_own _ rfl _ _ 22 rfl w.heap.size 31 i0 _ 7 88 (Yq.u Tryz.underlying22) hi0 hz0 hz1 hz2 rfl (by decide) _ m _ rfl (HX.out.1.alloc _) ⟨wr.heap.size,0,none⟩ 1 1 (aK ⟨kind,key,body,delim,past,nn,src⟩) rfl rfl (xz wr ⟨kind,key,body,delim,past,nn,src⟩ _) (one7 _) (by simp only [maxLen];omega) (by omega) (by have:=HX.out.2.size;simp;omega) ?_;intro v2 w2 ho2 hg2 _)
    have b2:Below w.heap.size w w2:=(HX.out.2.alloc HX.out.2.size _).grown hg2 (by have:=HX.out.2.size;simp;omega) (fun k e=>(HX.out.1.lt k e).1);refine ⟨⟨i+1,by omega,by go_num,?_,b2⟩,by simp [intOf];omega⟩;rw [HTK.out];rw [lP,HMM.out,List.flatMap_append];simpa using ho2
  .have hie:i=n:=by omega
   subst hie;have HT:Hid (ops.take i=ops):=tO (by rw [<-HS.out.2];exact lR _);have HO:Hid (wr.ownsRow w.heap.size 31 7 (.slice va (cN (ops.take i)).length vc) (cN (ops.take i)).length ((cN (ops.take i)).flatMap aK)/\Below w.heap.size w wr):=⟨hown,hb⟩;clear hown hb;go_wp2;go_ret;refine ⟨_,rfl,?_,HO.out.2⟩;have:=HO.out.1;rw [HT.out] at this;rw [HT.out];exact this
theorem se (v:Wq)(ops:List OpD)(mb m:Nat)(more:List OpD)(w:Wz)(h:dZ w v ops)(hm:dZ w (.slice (some ⟨mb,0,none⟩) m m) more)(hn:ops.length+m<=2199023255552)(h0:0<m):
  Calls Yq.prog 19 #[v,.slice (some ⟨mb,0,none⟩) m m] w fun e w'=>∃v',e=.returned v'/\w'.ownsRow w.heap.size 31 7 v' (ops.length+m) ((ops++more).flatMap aK)/\Below w.heap.size w w':=by
 obtain ⟨i0,hi0,hz0,hz1,hz2⟩:=info_parts Yq.infoOp;have hmm:m=more.length:=by
  obtain ⟨a',cap',he,_⟩:=hm.form;cases he;rfl
 have hms:∀j u,(more.flatMap aK)[j]?=some u->w.cell? ((⟨mb,0,none⟩:Addr).add j)=some u:=by
  rcases zZ hm with ⟨c,he,_⟩|⟨ad,c,he,hx⟩
  .cases he
  .cases he;exact hx
 have HM:Hid (∀j u,(more.flatMap aK)[j]?=some u->w.cell? ((⟨mb,0,none⟩:Addr).add j)=some u):=hms;have HMM:Hid (m=more.length):=hmm;clear hmm hms hm;rcases zZ h with ⟨c,rfl,rfl⟩|⟨ad,c,rfl,hsrc⟩
 .clear h;go_enter (Yq.nq Tryz.func19),Tryz.ntmps19;go_wp2_with (at_builtin;refine dS rfl _ _ rfl (Yq.u Tryz.underlying22) hi0 hz0 hz1 hz2 rfl rfl (World.ownsRow_nil _ w.heap.size _ _) rfl (news:=more.flatMap aK) (by rw [fo,HMM.out]) HM.out (im more) (by simp only [maxLen];omega) (by omega) (lR _) h0 ?_;intro v1 w1 ho1 hg1)
  obtain ⟨va,vc,rfl,-⟩:=ay ho1;go_wp2;go_ret;refine ⟨_,rfl,by simpa using ho1,(bR _ w).grown (row:=none) hg1 (lR _) (fun k e=>by cases e)⟩
 .have HSR:Hid (∀j u,(ops.flatMap aK)[j]?=some u->w.cell? (ad.add j)=some u):=hsrc;clear h hsrc;generalize hop:ops.length=n at *;have HN:Hid (ops.length=n):=hop;clear hop;have HAP:Hid (∀ (os:Array Oper) (rest:List Oper) (o:Oper) (b:Act) (_:o.guard=none) (s x:Operand) (_:o.op=.call {callee:=.builtin .append,args:=#[s,x],argTypes:=#[22,22]}) (_:b.eval s=.slice none 0 0) (_:b.eval x=.slice (some ad) n c) {Q:Exit->Act->Wz->Prop},(∀v1 w1,w1.ownsRow w.heap.size 31 7 v1 n (ops.flatMap aK)->w.grownBy w1 none->wpList Yq.prog os Q rest (b.put o.dst v1) w1)->wpList Yq.prog os Q (o::rest) b w):=fun os rest o b g1 s x g2 g3 g4 Q hK=>by
   by_cases hz:n=0
   .have he:ops=[]:=List.length_eq_zero_iff.1 (HN.out.trans hz);subst he hz;refine wpList_append_own w g1 s x 22 g2 w.heap.size 31 i0 _ 7 88 (Yq.u Tryz.underlying22) hi0 hz0 hz1 hz2 rfl (by decide) _ 0 [] g3 (World.ownsRow_nil _ _ _ _) ad 0 c [] g4 rfl (fun j u hj=>by simp at hj) (fun u hu=>by simp at hu) (by simp only [maxLen];omega) (by omega) (lR _) (fun v' w' k1 k2 _=>hK v' w' k1 k2)
   .exact dS g1 s x g2 (Yq.u Tryz.underlying22) hi0 hz0 hz1 hz2 rfl g3 (World.ownsRow_nil _ w.heap.size _ _) g4 (news:=ops.flatMap aK) (by rw [fo,HN.out]) HSR.out (im ops) (by simp only [maxLen];omega) (by omega) (lR _) (by omega) (fun v' w' k1 k2=>hK v' w' (by simpa using k1) k2)
  go_enter (Yq.nq Tryz.func19),Tryz.ntmps19
  go_upto_region 3 with (at_builtin;refine HAP.out _ _ _ _ rfl _ _ rfl rfl rfl ?_;intro v1 w1 ho1 hg1;obtain ⟨va,vc,rfl,-⟩:=ay ho1)
  have b1:Below w.heap.size w w1:=(bR _ w).grown (row:=none) hg1 (lR _) (fun k e=>by cases e);have HO:Hid (w1.ownsRow w.heap.size 31 7 (.slice va n vc) n (ops.flatMap aK)/\Below w.heap.size w w1):=⟨by simpa using ho1,b1⟩;clear ho1 hg1 b1;go_wp2_with (at_builtin;refine dS rfl _ _ rfl (Yq.u Tryz.underlying22) hi0 hz0 hz1 hz2 rfl rfl HO.out.1 rfl (news:=more.flatMap aK) (by rw [fo,HMM.out]) (fun j u hj=>ak HO.out.2 (HM.out j u hj)) (im more) (by simp only [maxLen];omega) (by omega) HO.out.2.size h0 ?_;intro v2 w2 ho2 hg2)
  obtain ⟨va2,vc2,rfl,-⟩:=ay ho2;go_wp2;go_ret;refine ⟨_,rfl,?_,HO.out.2.grown hg2 HO.out.2.size (fun k e=>(HO.out.1.lt k e).1)⟩;rw [List.flatMap_append];simpa using ho2
end
section
open Go
open Go.Conc Go.ConcX Go.ConcX.Gen Go.RowKit
def toL (a:Ev):jl:=⟨a.code,a.ver,a.body,[],⟨#[]⟩⟩
theorem Ar (st:St)(L:Lg)(toks:List ByteArray)(o:OpD)(h:o.kind<6):stepA st L toks o=((aL st o).1,L,toL (aL st o).2):=by
 unfold stepA;rw [if_neg (by omega),if_neg (by omega),if_neg (by omega),if_neg (by omega),if_neg (by omega),if_neg (by omega)];rfl
theorem At (ops:List OpD):∀ (d:Dk),(∀o∈ops,o.kind<6)->(ops.foldl ip d).al=d.al++(je d.st ops).map toL:=by
 induction ops with
 |nil=>intro d _;simp [je]
 |cons o r ih=>
  intro d h;rw [List.foldl_cons,ih _ fun x hx=>h x (by simp [hx])];simp only [ip,Ar _ _ _ o (h o (by simp)),je,List.map_cons,pA,List.singleton_append]
theorem Cv (s more:List OpD)(h:∀o∈more,o.kind<6):(cZ (s++more)).al=(cZ s).al++(je (cZ s).st more).map toL:=by
 rw [cZ,List.foldl_append];exact At more _ h
def sg (_:Qy):Prop:=True
def Fm (_:OpD):Prop:=True
def Fd (G:Wz->Prop)(N:Nat):Prop:=nG sg Fm G N
theorem qi (o:OpD)(h:o.kind≠12):jM sg o/\Fm o:=⟨⟨h,fun _=>trivial,fun _=>trivial⟩,trivial⟩
theorem Au {G:Wz->Prop}{N:Nat}(hAns:Fd G N)(v:Wq)(ops:List OpD)(w:Wz)(hG:∀w',aj w w'->G w')(h:dZ w v ops)(hne:ops≠[])(hn:ops.length<=N)(hN:N<2199023255540)(hk:∀o∈ops,o.kind≠12):
  Calls Yq.prog 18 #[v] w fun e w'=>Fc ops ops.length w e w'\/Stop sg e w':=
 (Cu sg Fm G N hAns v ops w hG h hne hn hN (fun o ho=>(qi o (hk o ho)).1) (fun o ho=>(qi o (hk o ho)).2)).mono fun _ _ h=>h.imp (fun h=>h.g _ rfl) id
end
