/- A part. -/
import Derived.Test.YtnapepbdohidgaaGreatDoorQS23
import Derived.Carry
set_option maxHeartbeats 4000000
set_option maxRecDepth 100000
open Go renaming World->Wz,Value->Wq,TypeId->Wk,Addr->Ww
namespace Go.Proofs.Qw
section
open Go
open Go.Conc Go.ConcX Go.ConcX.Gen Go.RowKit
theorem xu (m:Nat)(w:Wz):(binOp BinOp.eql 61 (.map (some m)) (.map none)).run Yq.prog w=.ok (.bool false) w:=by kernel_rfl
theorem ui (w:Wz):(binOp BinOp.eql 61 (.map none) (.map none)).run Yq.prog w=.ok (.bool true) w:=by kernel_rfl
section
variable {A:Nat->Prop} {B k0:Nat} {L:Lg}
theorem aI.set {w:Wz}(hA:¬A k0){j:Nat}(hj:4<=j/\j<=6)(v:Wq):aI A B k0 w (w.setCell ⟨k0,j,none⟩ v):=
 ⟨rfl,by simp,fun b _ _ h=>bS _ _ _ _ h,fun b hb _=>bS _ _ _ _ (fun e=>hA (by rw [<-show b=k0 from e];exact hb)),fun i hi=>cO _ _ _ _ (bE (by omega)),fun i=>World.frozen?_setCell ..⟩
theorem uj {w:Wz}{v:Wq}{B e size n:Nat}{xs:List Wq}(h:w.ownsRow B e size v n xs){g:Nat}(hg:v.ownBlock=some g):B<=g/\g<w.heap.size:=h.lt g hg
theorem ed {w w':Wz}{base:Nat}{e:Wk}{size:Nat}{v:Wq}{n:Nat}{xs:List Wq}(h:w.ownsRow base e size v n xs)(hb:∀g,v.ownBlock=some g->w'.heap[g]?=w.heap[g]?):w'.ownsRow base e size v n xs:=by
 refine ⟨h.1,?_⟩;rcases h.2 with h2|⟨g,cap,cur,hv,hg,hr,r⟩
 .exact Or.inl h2
 .exact Or.inr ⟨g,cap,cur,hv,hg,(hb g (by rw [hv];rfl)).trans hr,r⟩
theorem di.setMap {w:Wz}(h:di A B w k0 L){m:Nat}{es:Array MapEntry}{clock:Nat}{t:Told}(hm:w.heap[m]?=some (.map es clock))(hA:¬A m)(hB:B<=m)(he:ya es.toList t):di A B (w.setCell ⟨k0,6,none⟩ (.map (some m))) k0 {L with told:=t}:=by
 have hk:=h.low;have hlt:=h.lt;have hne:∀b,b≠k0->(w.setCell ⟨k0,6,none⟩ (.map (some m))).heap[b]?=w.heap[b]?:=fun b hb=>bS _ _ _ _ hb
 have hce:∀j,j≠6->(w.setCell ⟨k0,6,none⟩ (.map (some m))).cell? ⟨k0,j,none⟩=w.cell? ⟨k0,j,none⟩:=fun j hj=>cO _ _ _ _ (bE (by omega))
 obtain ⟨v,c4,zs,h1,h2,h3,h4⟩:=h.opened;obtain ⟨mv,c6,-⟩:=h.told;refine ⟨⟨v,(hce 4 (by omega)).trans c4,zs,h1,ed h2 (fun g hg=>hne g (by have:=(uj h2 hg).1;omega)),h3,fun z hz=>ai.keep (fun b hb hlt=>⟨hb,hne b (fun e=>h.avoid (e▸hb))⟩) 41 _ _ (h4 z hz)⟩,(hce 5 (by omega)).trans h.begun,⟨_,cS _ _ _ (by rw [c6];rfl),.inr ⟨m,es,clock,rfl,(hne m (by omega)).trans hm,he,hA,hB⟩⟩,fun j=>by rw [World.frozen?_setCell];exact h.frozen j,h.avoid,h.low,fun b hb=>by simpa using h.inn b hb⟩
theorem vu {w w':Wz}(h:∀b,b<w.heap.size->b≠k0->w'.heap[b]?=w.heap[b]?)(hs:w.heap.size<=w'.heap.size)(ho:w'.os=w.os):dq k0 w w':=⟨hs,ho,fun b _o hb _ hk=>(h b (eS hb).1 hk).trans hb⟩
theorem zO (w:Wz)(h:di A B w k0 L)(hB:B<=w.heap.size)(k:ByteArray)(x:Int×Int):
  Calls Yq.prog 70 #[.pointer (some ⟨k0,4,none⟩),.string k,plV x] w fun e w'=>e=.returned (.tuple #[])/\di A B w' k0 {L with told:=ln k x L.told}/\aI A B k0 w w'/\dq k0 w w'/\∀j,j≠6->w'.cell? ⟨k0,j,none⟩=w.cell? ⟨k0,j,none⟩:=by
 obtain ⟨mv,c6,hm⟩:=h.told;have f6:=h.frozen 6;have hlt:=h.lt;rcases hm with ⟨rfl,ht⟩|⟨m,es,clock,rfl,hm,he,hA,hBm⟩
 .have hb:aj w ((w.alloc (.cells #[.int .i64 x.1,.int .i64 x.2] 129)).alloc (.map #[] 0)):=(aj.refl.alloc _).alloc _;have hnew:((w.alloc (.cells #[.int .i64 x.1,.int .i64 x.2] 129)).alloc (.map #[] 0)).heap[w.heap.size+1]?=some (.map #[] 0):=by
   have:=aN (w.alloc (.cells #[.int .i64 x.1,.int .i64 x.2] 129)) (.map #[] 0)
   rwa [World.size_alloc] at this
  have hAn:¬A (w.heap.size+1):=fun e=>by have:=h.inn _ e;omega
  have h1:=(h.left hb).setMap hnew hAn (by omega) (t:=[]) trivial;have hw:((w.alloc (.cells #[.int .i64 x.1,.int .i64 x.2] 129)).alloc (.map #[] 0)).setCell ⟨k0,6,none⟩ (.map (some (w.heap.size+1)))=((w.setCell ⟨k0,6,none⟩ (.map (some (w.heap.size+1)))).alloc (.cells #[.int .i64 x.1,.int .i64 x.2] 129)).alloc (.map #[] 0):=by
   rw [World.setCell_alloc_past _ _ _ _ (by simp;omega),World.setCell_alloc_past _ _ _ _ hlt]
  rw [hw] at h1;have hd:aI A B k0 w (((w.setCell ⟨k0,6,none⟩ (.map (some (w.heap.size+1)))).alloc (.cells #[.int .i64 x.1,.int .i64 x.2] 129)).alloc (.map #[] 0)):=by
   rw [<-hw];exact (aI.left hlt hb).trans (aI.set h.avoid ⟨by omega,by omega⟩ _)
  obtain ⟨W,hW⟩:∃W,W=((w.setCell ⟨k0,6,none⟩ (.map (some (w.heap.size+1)))).alloc (.cells #[.int .i64 x.1,.int .i64 x.2] 129)).alloc (.map #[] 0):=⟨_,rfl⟩;have hm1:W.drew.heap[w.heap.size+1]?=some (.map #[] 0):=by
   rw [hW,<-hw];exact (bS _ _ _ _ (by show w.heap.size+1≠k0;omega)).trans hnew
  rw [<-hW] at h1 hd;obtain ⟨es',clock',hup,he'⟩:=oH hm1 (t:=[]) trivial k x;obtain ⟨mv,k6,-⟩:=h1.told;have k6':W.cell? ⟨k0,6,none⟩=some (.map (some (w.heap.size+1))):=by
   rw [hW,<-hw];exact cS _ _ _ (by rw [hb.cell c6];rfl)
  have hLD:aj W W.drew:=aj.refl.drew;have HX:Hid (di A B (W.drew.putObj (w.heap.size+1) (.map es' clock')) k0 {L with told:=ln k x L.told}/\aI A B k0 w (W.drew.putObj (w.heap.size+1) (.map es' clock'))/\dq k0 w (W.drew.putObj (w.heap.size+1) (.map es' clock'))/\∀j,j≠6->(W.drew.putObj (w.heap.size+1) (.map es' clock')).cell? ⟨k0,j,none⟩=w.cell? ⟨k0,j,none⟩):=by
   have hkc:dq k0 w W:=by
    rw [hW,<-hw];exact vu (fun b h1 h2=>(bS _ _ _ _ h2).trans (hb.block b h1)) (by simp;omega) rfl
   refine ⟨?_,(hd.trans (aI.left h1.lt hLD)).trans (putMap hm1 hAn (by omega) h.low),hkc.trans (dq.trans ⟨lR _,rfl,fun _ _ h _ _=>h⟩ (fh hm1 rfl _)),fun j hj=>?_⟩
   rotate_left
   .have e1:(W.drew.putObj (w.heap.size+1) (.map es' clock')).cell? ⟨k0,j,none⟩=W.drew.cell? ⟨k0,j,none⟩:=cB (a:=⟨k0,j,none⟩) (pO (show k0≠w.heap.size+1 by omega));have e2:W.drew.cell? ⟨k0,j,none⟩=W.cell? ⟨k0,j,none⟩:=rfl;rw [e1,e2,hW,<-hw,cO _ _ _ _ (bE (by omega))];exact cB (a:=⟨k0,j,none⟩) (hb.block k0 hlt)
   have:=(h1.left hLD).putMap (es':=es') (clock':=clock') (hLD.cell k6') hm1 hAn (by omega) (t:=ln k x []) he';rw [ht];exact this
  have hn:=ui;have hmm:=@run_makeMap Yq.prog;clear h h1 hd hm1 he' hb hw hnew k6 hLD k6';subst hW;unfold plV at hup ⊢;go_enter (Yq.nq Tryz.func70),Tryz.ntmps70;go_wp2_with fail
  go_region_law (refine iO rfl 61 (.tmp 18) (.tmp 19) (.tmp 20) rfl hup ?_)
  all_goals go_end0
  all_goals exact ⟨rfl,HX.out⟩
 .have hb:aj w (w.alloc (.cells #[.int .i64 x.1,.int .i64 x.2] 129)).drew:=(aj.refl.alloc _).drew;have h1:=h.left hb;obtain ⟨es',clock',hup,he'⟩:=oH (w:=(w.alloc (.cells #[.int .i64 x.1,.int .i64 x.2] 129)).drew) ((hb.block m (eS hm).1).trans hm) he k x;have HX:Hid (di A B ((w.alloc (.cells #[.int .i64 x.1,.int .i64 x.2] 129)).drew.putObj m (.map es' clock')) k0 {L with told:=ln k x L.told}/\aI A B k0 w ((w.alloc (.cells #[.int .i64 x.1,.int .i64 x.2] 129)).drew.putObj m (.map es' clock'))/\dq k0 w ((w.alloc (.cells #[.int .i64 x.1,.int .i64 x.2] 129)).drew.putObj m (.map es' clock'))/\∀j,j≠6->((w.alloc (.cells #[.int .i64 x.1,.int .i64 x.2] 129)).drew.putObj m (.map es' clock')).cell? ⟨k0,j,none⟩=w.cell? ⟨k0,j,none⟩):=
   ⟨h1.putMap (hb.cell c6) ((hb.block m (eS hm).1).trans hm) hA hBm he',(aI.left hlt hb).trans (putMap ((hb.block m (eS hm).1).trans hm) hA hBm h.low),(vu (fun b h1 _=>hb.block b h1) hb.size hb.os).trans (fh ((hb.block m (eS hm).1).trans hm) rfl _),fun j _=>(cB (a:=⟨k0,j,none⟩) (pO (by have:=h.low;show k0≠m;omega))).trans (cB (a:=⟨k0,j,none⟩) (hb.block k0 hlt))⟩
  clear h h1 hm he he' hb;unfold plV at hup ⊢;have hn:=xu m;go_enter (Yq.nq Tryz.func70),Tryz.ntmps70;go_wp2_with fail
  go_region_law (refine iO rfl 61 (.tmp 18) (.tmp 19) (.tmp 20) rfl hup ?_)
  all_goals go_end0
  all_goals exact ⟨rfl,HX.out⟩
end
theorem uk {l l':Lst}(h:l.size=l'.size)(pn k:Int):gC l pn k=gC l' pn k:=by simp [gC,h]
theorem gr {l l':Lst}(h:l.size=l'.size)(pn:Int):∀ (its:List ItD)(k:Nat),dL l pn k its=dL l' pn k its
 | [],_=>rfl
 |i::r,k=>by rw [dL,dL,uk h,gr h pn r]
def LsA.page (x:LsA)(pn:Int):List ItD:=dL (x.lst none) pn 0 (bF x.q (bI x.f x.q.p.data.toList))
def LsA.tok (x:LsA)(pn:Int):ByteArray:=D6 (x.lst none) pn (bF x.q (bI x.f x.q.p.data.toList)).length
def iH (L:Lg)(f:List UInt8->List Ver)(q:Qy)(size:Int):LsA:=⟨L.begun+1,f,q,size,10⟩
def d7 (L:Lg)(f:List UInt8->List Ver)(q:Qy)(size:Int):Lg×List ItD×ByteArray×Int:=
 if size<1\/20<size then (L,[],⟨#[]⟩,7)
 else if (iH L f q size).tok 1=⟨#[]⟩ then (L,(iH L f q size).page 1,⟨#[]⟩,0)
 else if 3<=L.opened.length then (L,[],⟨#[]⟩,8)
 else (⟨L.opened++[iH L f q size],L.begun+1,ln ((iH L f q size).tok 1) (L.begun+1,2) L.told,L.tm⟩,(iH L f q size).page 1,(iH L f q size).tok 1,0)
def aQ (A:Nat->Prop)(B k0:Nat)(w:Wz)(L':Lg)(its:List ItD)(sv:Wq)(w':Wz):Prop:=
 ∃A':Nat->Prop,(∀b,A b->A' b)/\(∀b,A' b->A b\/w.heap.size<=b)/\di A' B w' k0 L'/\aI A B k0 w w'/\bH A' w' sv its.length (ax its)/\FrC k0 w w'
theorem rR (n:Int)(r:Option Ww)(vs:Bool)(p d af:ByteArray)(s:Int)(w:Wz):(Instr.build 125 #[(0,.int .i64 n),(1,.agg #[.pointer r]),(2,.agg #[.bool vs,.string p,.string d,.string af]),(3,.int .i64 s),(4,.int .i64 10)]).run Yq.prog w=.ok (.agg #[.int .i64 n,.pointer r,.bool vs,.string p,.string d,.string af,.int .i64 s,.int .i64 10]) w:=by kernel_rfl
theorem nw (a b:Int)(w:Wz):(Instr.build 129 #[(0,.int .i64 a),(1,.int .i64 b)]).run Yq.prog w=.ok (.agg #[.int .i64 a,.int .i64 b]) w:=by kernel_rfl
theorem eH (w:Wz):(Instr.build 88 #[]).run Yq.prog w=.ok (.agg #[.slice none 0 0,.string ⟨#[]⟩]) w:=by kernel_rfl
section
variable {A:Nat->Prop} {B k0:Nat} {L:Lg}
theorem aQ.same {w w':Wz}(h:di A B w k0 L)(hl:aj w w'):aQ A B k0 w L [] (.slice none 0 0) w':=
 ⟨A,fun _ h=>h,fun _ h=>.inl h,h.left hl,aI.left h.lt hl,⟨none,0,rfl,fun _=>rfl,fun h=>absurd rfl h⟩,FrC.left h.lt hl⟩
theorem di.more {w w2:Wz}(h:di A B w k0 L)(hl:aj w w2){A':Nat->Prop}(h1:∀b,A b->A' b)(h2:∀b,A' b->A b\/w.heap.size<=b)(h3:∀b,A' b->b<w2.heap.size):di A' B w2 k0 L:=by
 have hlt:=h.lt;have hno:∀g,g<w.heap.size->¬A g->¬A' g:=fun g hg ha hx=>by
  rcases h2 g hx with h|h
  .exact ha h
  .omega
 obtain ⟨v,c4,zs,z1,z2,z3,z4⟩:=h.opened;obtain ⟨mv,c6,hm⟩:=h.told;refine ⟨⟨v,hl.cell c4,zs,z1,bc z2 fun g _ hg=>hl.block g hg,fun g hg=>hno g (z2.lt g hg).2 (z3 g hg),fun z hz=>ai.keep (fun b hb hlt=>⟨h1 b hb,hl.block b hlt⟩) 41 _ _ (z4 z hz)⟩,hl.cell h.begun,⟨mv,hl.cell c6,?_⟩,fun j=>(fB (a:=⟨k0,j,none⟩) (hl.block k0 hlt)).trans (h.frozen j),hno k0 hlt h.avoid,h.low,h3⟩;rcases hm with hm|⟨m,es,clock,m1,m2,m3,m4,m5⟩
 .exact .inl hm
 .have hml:=(eS m2).1;exact .inr ⟨m,es,clock,m1,(hl.block m hml).trans m2,m3,hno m hml m4,m5⟩
theorem ky {w:Wz}{base e:Nat}{sv:Wq}{n:Nat}{xs:List Wq}(h:w.ownsRow base e 3 sv n xs){A':Nat->Prop}(hA:∀g,sv.ownBlock=some g->A' g):bH A' w sv n xs:=by
 rcases h.2 with ⟨rfl,rfl⟩|⟨g,cap,cur,rfl,hb,hr,r⟩
 .have:xs=[]:=by have:=h.1;simpa using this
  exact ⟨none,0,rfl,fun _=>rfl,fun hx=>absurd this hx⟩
 .refine ⟨some ⟨g,0,none⟩,cap,rfl,fun h=>(by cases h),fun _=>⟨g,rfl,hA g rfl,(eS hr).1,fun j hj=>?_⟩⟩;have:=h.cells (g:=g) rfl j xs[j] (eL hj);rw [Addr.add_lit,zA] at this;rw [this,eL hj]
theorem aQ.page {w w1 w2:Wz}(h:di A B w k0 L)(hl:aj w w2){base:Nat}{sv:Wq}{pg:List ItD}(hrow:w1.ownsRow base 41 3 sv pg.length (ax pg))(hb:w.heap.size<=base)(hk:∀g,base<=g->g<w1.heap.size->w2.heap[g]?=w1.heap[g]?):aQ A B k0 w L pg sv w2:=by
 have hr2:=bc hrow hk;refine ⟨fun b=>A b\/sv.ownBlock=some b,fun _ h=>.inl h,fun b hx=>?_,h.more hl (fun _ h=>.inl h) (fun b hx=>?_) (fun b hx=>?_),aI.left h.lt hl,ky hr2 fun g hg=>.inr hg,FrC.left h.lt hl⟩
 .rcases hx with hx|hx
  .exact .inl hx
  .exact .inr (by have:=(hr2.lt b hx).1;omega)
 .rcases hx with hx|hx
  .exact .inl hx
  .exact .inr (by have:=(hr2.lt b hx).1;omega)
 .rcases hx with hx|hx
  .exact lL (h.inn b hx) hl.size
  .exact (hr2.lt b hx).2
end
section
variable {P:Program}
theorem jg (w:Wz)(base:Nat)(t ty e:Wk)(i:TypeInfo)(z:Wq)(size bytes:Nat)(ht:P.underlying t=some (.slice e))(hi:P.info? e=some i)(hz:i.zero=some z)(hsize:i.size=size)(hby:i.bytes=bytes)(hzs:z.cells.size=size)(hsz:0<size)
  (v:Wq) (n:Nat) (xs:List Wq) (hown:w.ownsRow base e size v n xs) (a:Ww) (m c:Nat) (news:List Wq) (hl:news.length=m * size) (hnews:∀j u,news[j]?=some u->w.cell? (a.add j)=some u) (h1:∀u∈news,u.oneCell'=true)
  (h63:n+m<=maxLen) (hbytes:(n+m) * bytes<=140737488355328) (hbase:base<=w.heap.size):
  ∃v' w',(Builtin.append_ #[t,t] ty #[v,.slice (some a) m c]).run P w=.ok v' w'/\w'.ownsRow base e size v' (n+m) (xs++news)/\w.grownBy w' v.ownBlock/\∀g,v'.ownBlock=some g->v.ownBlock=some g\/w.heap.size<=g:=by
 obtain ⟨v',w',hr,ho,hg,-⟩:=run_append_own (P:=P) w base t ty e i z size bytes ht hi hz hsize hby hzs hsz v n xs hown a m c news hl hnews h1 h63 hbytes hbase;refine ⟨v',w',hr,ho,hg,fun g hg2=>?_⟩;rcases hown.2 with ⟨rfl,rfl⟩|⟨g0,cap,cur,rfl,hb0,hrow,hcap⟩
 .obtain ⟨v2,w2,hr2,ho2,-⟩:=run_append_own (P:=P) w w.heap.size t ty e i z size bytes ht hi hz hsize hby hzs hsz (.slice none 0 0) 0 xs ⟨hown.1,.inl ⟨rfl,rfl⟩⟩ a m c news hl hnews h1 h63 hbytes (lR _);rw [hr] at hr2;cases hr2;exact .inr (ho2.lt g hg2).1
 .by_cases hf:n+m<=cap
  .obtain ⟨w2,hr2,-⟩:=run_append_fits (P:=P) w base t ty e i size ht hi hsize g0 n cap xs hown a m c news hl hnews h1 hf;rw [hr] at hr2;cases hr2;exact .inl hg2
  .obtain ⟨v2,w2,hr2,ho2,-⟩:=run_append_arg_grows (P:=P) w t ty e i z size bytes ht hi hz hsize hby hzs hsz ⟨g0,0,none⟩ n cap xs hown.1 (fun j u hj=>hown.cells (g:=g0) rfl j u hj) a m c news hl hnews (by omega) h63 hbytes;rw [hr] at hr2;cases hr2;exact .inr (ho2.lt g hg2).1
theorem cH {ops:Array Oper}{o:Oper}{a:Act}{w:Wz}{K:Act->Wz->Prop}{Q:Exit->Act->Wz->Prop}{E:Prop}
  (hg:o.guard=none) (s x:Operand) (t:Wk) (hop:o.op=Op.call {callee:=Callee.builtin Builtin.append,args:=#[s,x],argTypes:=#[t,t]})
  (base:Nat) (e:Wk) (i:TypeInfo) (z:Wq) (size bytes:Nat) (ht:P.underlying t=some (.slice e)) (hi:P.info? e=some i) (hz:i.zero=some z) (hsize:i.size=size) (hby:i.bytes=bytes) (hzs:z.cells.size=size) (hsz:0<size)
  (v:Wq) (n:Nat) (xs:List Wq) (hs:a.eval s=v) (hown:w.ownsRow base e size v n xs)
  (ad:Ww) (m c:Nat) (news:List Wq) (hx:a.eval x=.slice (some ad) m c) (hl:news.length=m * size) (hnews:∀j u,news[j]?=some u->w.cell? (ad.add j)=some u) (h1:∀u∈news,u.oneCell'=true)
  (h63:n+m<=maxLen) (hbytes:(n+m) * bytes<=140737488355328) (hbase:base<=w.heap.size)
  (h:∀v' w',w'.ownsRow base e size v' (n+m) (xs++news)->w.grownBy w' v.ownBlock->(∀g,v'.ownBlock=some g->v.ownBlock=some g\/w.heap.size<=g)->K (a.put o.dst v') w'):
  if Region.wanted o (yielded ops a.tmps)=true then Oper.wp P o a w K Q else E:=by
 obtain ⟨v',w',hr,h2,h3,h4⟩:=jg (P:=P) w base t o.type e i z size bytes ht hi hz hsize hby hzs hsz v n xs hown ad m c news hl hnews h1 h63 hbytes hbase;exact dI hg s x t t hop v _ hs hx hr (h v' w' h2 h3 h4)
end
theorem Yq.infoLst:(Yq.prog.info? 125).map (fun i=>(i.zero,i.size,i.bytes))=some (some (.agg #[.int .i64 0,.pointer none,.bool false,.string ⟨#[]⟩,.string ⟨#[]⟩,.string ⟨#[]⟩,.int .i64 0,.int .i64 0]),8,88):=by kernel_rfl
theorem one8 (l:Lst):∀u∈(aE l).toList,u.oneCell'=true:=by
 intro u hu;simp [aE] at hu;rcases hu with rfl|rfl|rfl|rfl|rfl|rfl|rfl|rfl<;>rfl
section
variable {A:Nat->Prop} {B k0:Nat} {L:Lg}
theorem di.push {W w3:Wz}(h:di A B W k0 L){v v':Wq}{zs:List (LsA×Option Ww)}{x:LsA}{root:Option Ww}{n:Int}(c4:W.cell? ⟨k0,4,none⟩=some v)(z1:L.opened=zs.map (·.1))(z2:W.ownsRow B 125 8 v zs.length (aV zs))(z3:∀g,v.ownBlock=some g->¬A g)(z4:∀z∈zs,ai A 41 W z.2 z.1.f)
  (ho:w3.ownsRow B 125 8 v' (zs.length+1) (aV zs++(aE (x.lst root)).toList)) (hg:W.grownBy w3 v.ownBlock) (hvb:∀g,v'.ownBlock=some g->v.ownBlock=some g\/W.heap.size<=g) (hN:ai A 41 W root x.f):
  di A B ((w3.setCell ⟨k0,4,none⟩ v').setCell ⟨k0,5,none⟩ (.int .i64 n)) k0 ⟨L.opened++[x],n,L.told,L.tm⟩/\aI A B k0 W ((w3.setCell ⟨k0,4,none⟩ v').setCell ⟨k0,5,none⟩ (.int .i64 n)):=by
 have hk:=h.low;have hlt:=h.lt;obtain ⟨mv,c6,hm⟩:=h.told;have hvk:∀g,v.ownBlock=some g->B<=g:=fun g hg=>(z2.lt g hg).1
 have hne4:some k0≠v.ownBlock:=fun e=>by have:=hvk k0 e.symm;omega
 have hbk:W.heap[k0]?=w3.heap[k0]?:=(hg.block k0 hlt hne4).symm;have hset:∀b,b≠k0->((w3.setCell ⟨k0,4,none⟩ v').setCell ⟨k0,5,none⟩ (.int .i64 n)).heap[b]?=w3.heap[b]?:=fun b hb=>by
  rw [bS _ _ _ _ hb,bS _ _ _ _ hb]
 have hA3:∀b,A b->((w3.setCell ⟨k0,4,none⟩ v').setCell ⟨k0,5,none⟩ (.int .i64 n)).heap[b]?=W.heap[b]?:=fun b hb=>
  (hset b (fun e=>h.avoid (e▸hb))).trans (hg.block b (h.inn b hb) (fun e=>z3 b e.symm hb))
 have hc3:∀j,w3.cell? ⟨k0,j,none⟩=W.cell? ⟨k0,j,none⟩:=fun j=>cB (a:=⟨k0,j,none⟩) hbk.symm
 have hcj:∀j,j≠4->j≠5->((w3.setCell ⟨k0,4,none⟩ v').setCell ⟨k0,5,none⟩ (.int .i64 n)).cell? ⟨k0,j,none⟩=W.cell? ⟨k0,j,none⟩:=fun j h4 h5=>by
  rw [cO _ _ _ _ (bE fun e=>h5 e.symm),cO _ _ _ _ (bE fun e=>h4 e.symm),hc3]
 have hfz:∀j,((w3.setCell ⟨k0,4,none⟩ v').setCell ⟨k0,5,none⟩ (.int .i64 n)).frozen? ⟨k0,j,none⟩=W.frozen? ⟨k0,j,none⟩:=fun j=>by
  rw [World.frozen?_setCell,World.frozen?_setCell];exact fB (a:=⟨k0,j,none⟩) hbk.symm
 have hsz:W.heap.size<=((w3.setCell ⟨k0,4,none⟩ v').setCell ⟨k0,5,none⟩ (.int .i64 n)).heap.size:=by have:=hg.size;simpa using this
 refine ⟨⟨⟨v',?_,zs++[(x,root)],by simp [z1],?_,fun g hg2=>?_,fun z hz=>?_⟩,?_,⟨mv,(hcj 6 (by omega) (by omega)).trans c6,?_⟩,fun j=>(hfz j).trans (h.frozen j),h.avoid,h.low,fun b hb=>lL (h.inn b hb) hsz⟩,⟨hg.os,hsz,fun b h1 h2 h3=>(hset b h3).trans (hg.block b h2 (fun e=>by have:=hvk b e.symm;omega)),fun b hb _=>hA3 b hb,fun j hj=>hcj j (by omega) (by omega),hfz⟩⟩
 .rw [cO _ _ _ _ (bE (by omega))];exact cS _ _ _ (by rw [hc3,c4];rfl)
 .rw [uh,lP,lS];exact ed ho fun g hg2=>hset g (by have:=(ho.lt g hg2).1;omega)
 .rcases hvb g hg2 with h1|h1
  .exact z3 g h1
  .exact fun ha=>by have:=h.inn g ha;omega
 .rcases List.mem_append.1 hz with hz|hz
  .exact ai.keep (fun b hb _=>⟨hb,hA3 b hb⟩) 41 _ _ (z4 z hz)
  .simp at hz;subst hz;exact ai.keep (fun b hb _=>⟨hb,hA3 b hb⟩) 41 _ _ hN
 .refine cS _ _ _ ?_;rw [cO _ _ _ _ (bE (by omega)),hc3,h.begun];rfl
 .rcases hm with hm|⟨m,es,clock,m1,m2,m3,m4,m5⟩
  .exact .inl hm
  .refine .inr ⟨m,es,clock,m1,?_,m3,m4,m5⟩;rw [hset m (by omega),hg.block m (eS m2).1 (fun e=>?_)]
   .exact m2
   .rcases z2.2 with ⟨rfl,-⟩|⟨g,cap,cur,rfl,hb,hr,-⟩
    .cases e
    .cases e;rw [hr] at m2;cases m2
theorem di.other {w:Wz}(h:di A B w k0 L){b j:Nat}{x:Wq}(hb:b≠k0)(hA:¬A b)(hcl:cn w b)(hv:∀v g,w.cell? ⟨k0,4,none⟩=some v->v.ownBlock=some g->g≠b):di A B (w.setCell ⟨b,j,none⟩ x) k0 L:=by
 have hne:∀g,g≠b->(w.setCell ⟨b,j,none⟩ x).heap[g]?=w.heap[g]?:=fun g hg=>bS _ _ _ _ hg
 have hk:=hne k0 (fun e=>hb e.symm);have hce:∀i,(w.setCell ⟨b,j,none⟩ x).cell? ⟨k0,i,none⟩=w.cell? ⟨k0,i,none⟩:=fun i=>cB (a:=⟨k0,i,none⟩) hk
 obtain ⟨v,c4,zs,z1,z2,z3,z4⟩:=h.opened;obtain ⟨mv,c6,hm⟩:=h.told;refine ⟨⟨v,(hce 4).trans c4,zs,z1,ed z2 fun g hg=>hne g (hv v g c4 hg),z3,fun z hz=>ai.keep (fun g hg _=>⟨hg,hne g (fun e=>hA (e▸hg))⟩) 41 _ _ (z4 z hz)⟩,(hce 5).trans h.begun,⟨mv,(hce 6).trans c6,?_⟩,fun i=>(fB (a:=⟨k0,i,none⟩) hk).trans (h.frozen i),h.avoid,h.low,fun g hg=>by simpa using h.inn g hg⟩;rcases hm with hm|⟨m,es,clock,m1,m2,m3⟩
 .exact .inl hm
 .refine .inr ⟨m,es,clock,m1,(hne m fun e=>?_).trans m2,m3⟩;subst e;obtain ⟨o,h1,h2⟩:=hcl;rw [m2] at h1;cases h1;cases h2
theorem aI.other {w:Wz}{b j:Nat}{x:Wq}(hb:b≠k0)(hA:¬A b)(hB:B<=b):aI A B k0 w (w.setCell ⟨b,j,none⟩ x):=by
 have hne:∀g,g≠b->(w.setCell ⟨b,j,none⟩ x).heap[g]?=w.heap[g]?:=fun g hg=>bS _ _ _ _ hg
 have hk:=hne k0 (fun e=>hb e.symm);exact ⟨rfl,by simp,fun g h1 _ _=>hne g (by omega),fun g h1 _=>hne g (fun e=>hA (e▸h1)),fun i _=>cB (a:=⟨k0,i,none⟩) hk,fun i=>fB (a:=⟨k0,i,none⟩) hk⟩
theorem aI.mono {A':Nat->Prop}{w w':Wz}(h:aI A' B k0 w w')(hA:∀b,A b->A' b):aI A B k0 w w':=⟨h.os,h.size,h.low,fun b hb=>h.tree b (hA b hb),h.cells,h.fz⟩
theorem FB (W:Wz)(xs:List Wq)(T:Wk):∀j u,xs[j]?=some u->(W.alloc (.cells xs.toArray T)).drew.cell? ((⟨W.heap.size,0,none⟩:Ww).add j)=some u:=by
 intro j u hj;rw [Addr.add_lit,zA];have:(W.alloc (.cells xs.toArray T)).cell? ⟨W.heap.size,j,none⟩=xs.toArray[j]?:=cA (w:=W) _ _ W.heap.size _ rfl;show (W.alloc (.cells xs.toArray T)).cell? ⟨W.heap.size,j,none⟩=some u;rw [this];simpa using hj
end
section
variable {A:Nat->Prop} {B k0:Nat} {L:Lg}
theorem dq.cell {t:Nat}{W W':Wz}(h:dq t W W'){b j:Nat}{v:Wq}(hc:W.cell? ⟨b,j,none⟩=some v)(hb:b≠t):W'.cell? ⟨b,j,none⟩=some v:=by
 obtain ⟨o,h1,h2⟩:=cn.of_cell hc;exact (cB (a:=⟨b,j,none⟩) ((h.2.2 b o h1 h2 hb).trans h1.symm)).trans hc
theorem dq.frozen {t:Nat}{W W':Wz}(h:dq t W W'){b j:Nat}{v:Wq}(hc:W.cell? ⟨b,j,none⟩=some v)(hb:b≠t):W'.frozen? ⟨b,j,none⟩=W.frozen? ⟨b,j,none⟩:=by
 obtain ⟨o,h1,h2⟩:=cn.of_cell hc;exact fB (a:=⟨b,j,none⟩) ((h.2.2 b o h1 h2 hb).trans h1.symm)
theorem eT {w3:Wz}{v' v'':Wq}{b j:Nat}{v:Wq}(hc:w3.cell? ⟨b,j,none⟩=some v)(hb:b≠k0):((w3.setCell ⟨k0,4,none⟩ v').setCell ⟨k0,5,none⟩ v'').cell? ⟨b,j,none⟩=some v:=by
 have e:((w3.setCell ⟨k0,4,none⟩ v').setCell ⟨k0,5,none⟩ v'').heap[b]?=w3.heap[b]?:=by rw [bS _ _ _ _ hb,bS _ _ _ _ hb]
 exact (cB (a:=⟨b,j,none⟩) e).trans hc
theorem Ed {w V w1 w3:Wz}(h:di A B w k0 L)(hB:B<=w.heap.size)(hLV:aj w V)(hVs:V.heap.size=w.heap.size+4)(hl1:aj V w1){sv v4 v':Wq}{pg:List ItD}(hrow:w1.ownsRow V.heap.size 41 3 sv pg.length (ax pg)){zs:List (LsA×Option Ww)}(c4:w.cell? ⟨k0,4,none⟩=some v4)
    (z1:L.opened=zs.map (·.1)) (z2:w.ownsRow B 125 8 v4 zs.length (aV zs)) (z3:∀g,v4.ownBlock=some g->¬A g) (z4:∀z∈zs,ai A 41 w z.2 z.1.f) {root:Option Ww} {x:LsA} (hN:ai A 41 w root x.f) (o o':Obj) (ho3:w3.ownsRow B 125 8 v' (zs.length+1) (aV zs++(aE (x.lst root)).toList)) (hg3:((w1.alloc o).alloc o').drew.grownBy w3 v4.ownBlock) (hvb:∀g,v'.ownBlock=some g->v4.ownBlock=some g\/((w1.alloc o).alloc o').drew.heap.size<=g) (n:Int) (tk:ByteArray) (pl:Int×Int) {y:Wq} (hbox:w1.cell? ⟨w.heap.size+1+1,0,none⟩=some y):
    Calls Yq.prog 70 #[.pointer (some ⟨k0,4,none⟩),.string tk,plV pl] ((w3.setCell ⟨k0,4,none⟩ v').setCell ⟨k0,5,none⟩ (.int .i64 n)) fun e w6=>e=.returned (.tuple #[])/\dq k0 ((w3.setCell ⟨k0,4,none⟩ v').setCell ⟨k0,5,none⟩ (.int .i64 n)) w6 /\
      ∀y0 y1,aQ A B k0 w ⟨L.opened++[x],n,ln tk pl L.told,L.tm⟩ pg sv ((w6.setCell ⟨w.heap.size+1+1,0,none⟩ y0).setCell ⟨w.heap.size+1+1,1,none⟩ y1):=by
  obtain ⟨W2,hW2⟩:∃W2,W2=((w1.alloc o).alloc o').drew:=⟨_,rfl⟩;rw [<-hW2] at hg3 hvb;have hL12:aj w1 W2:=by rw [hW2];exact ((aj.refl.alloc o).alloc o').drew
  have hLw:aj w W2:=(hLV.trans hl1).trans hL12;have hsz2:W2.heap.size=w1.heap.size+2:=by rw [hW2];simp
  have hlow:=h.low;have hlt:=h.lt;have hs1:=hl1.size;obtain ⟨A',hA'⟩:∃A':Nat->Prop,A'=fun b=>A b\/sv.ownBlock=some b:=⟨_,rfl⟩
  have a1:∀b,A b->A' b:=fun b hb=>by rw [hA'];exact .inl hb
  have a2:∀b,A' b->A b\/w.heap.size+4<=b/\b<w1.heap.size:=fun b hb=>by
    rw [hA'] at hb;rcases hb with hb|hb
    . exact .inl hb
    . have:=hrow.lt b hb;exact .inr (by omega)
  have h2:di A' B W2 k0 L:=h.more hLw a1 (fun b hb=>(a2 b hb).imp id (by omega)) (fun b hb=>by
    rcases a2 b hb with h1|h1
    . have:=h.inn b h1;have:=hLw.size;omega
    . omega)
  have c4':=hLw.cell c4;have z2':W2.ownsRow B 125 8 v4 zs.length (aV zs):=bc z2 fun g _ hg=>hLw.block g hg
  have z3':∀g,v4.ownBlock=some g->¬A' g:=fun g hg ha=>by
    rcases a2 g ha with h1|h1
    . exact z3 g hg h1
    . have:=(z2.lt g hg).2;omega
  obtain ⟨h5,hd5⟩:=h2.push (x:=x) (root:=root) (n:=n) c4' z1 z2' z3' (fun z hz=>ai.keep (fun b hb hb2=>⟨a1 b hb,hLw.block b hb2⟩) 41 _ _ (z4 z hz)) ho3 hg3 hvb (ai.keep (fun b hb hb2=>⟨a1 b hb,hLw.block b hb2⟩) 41 _ _ hN);have hs3:=hg3.size;obtain ⟨W5,hW5⟩:∃W5,W5=(w3.setCell ⟨k0,4,none⟩ v').setCell ⟨k0,5,none⟩ (.int .i64 n):=⟨_,rfl⟩;have hs5:W5.heap.size=w3.heap.size:=by rw [hW5];simp
  have k4:W5.cell? ⟨k0,4,none⟩=some v':=by
    have hbk:w3.heap[k0]?=W2.heap[k0]?:=hg3.block k0 (by have:=hLw.size;omega) (fun e=>by have:=(z2.lt k0 e.symm).1;omega);rw [hW5,cO _ _ _ _ (bE (by omega))];exact cS _ _ _ (by rw [cB (a:=⟨k0,4,none⟩) hbk,c4'];rfl)
  rw [<-hW5] at h5 hd5 ⊢;refine (zO W5 h5 (by omega) tk pl).mono ?_;rintro e w6 ⟨rfl,h6,hd6,hk6,hj6⟩;refine ⟨rfl,hk6,fun y0 y1=>?_⟩;have hnA:¬A' (w.heap.size+1+1):=fun ha=>by
    rcases a2 _ ha with h1|h1
    . have:=h.inn _ h1;omega
    . omega
  have hv6:∀v g,w6.cell? ⟨k0,4,none⟩=some v->v.ownBlock=some g->g≠w.heap.size+1+1:=fun v g hv hg e=>by
    rw [hj6 4 (by omega),k4] at hv;cases hv;rcases hvb g hg with h1|h1
    . have:=(z2.lt g h1).2;omega
    . omega
  have hc6:cn w6 (w.heap.size+1+1):=by
    refine cn.of_cell (hk6.cell (j:=0) (v:=y) ?_ (by omega));rw [hW5];refine eT ?_ (by omega);have e:w3.heap[w.heap.size+1+1]?=w1.heap[w.heap.size+1+1]?:=(hg3.block _ (by omega) (fun e=>by have:=(z2.lt _ e.symm).2;omega)).trans (hL12.block _ (bC w1 _ hbox));exact (cB (a:=⟨w.heap.size+1+1,0,none⟩) e).trans hbox
  have h7:=h6.other (j:=0) (x:=y0) (show w.heap.size+1+1≠k0 by omega) hnA hc6 hv6;have hk7:(w6.setCell ⟨w.heap.size+1+1,0,none⟩ y0).cell? ⟨k0,4,none⟩=w6.cell? ⟨k0,4,none⟩:=cB (a:=⟨k0,4,none⟩) (bS _ _ _ _ (show k0≠w.heap.size+1+1 by omega));have hc7:cn (w6.setCell ⟨w.heap.size+1+1,0,none⟩ y0) (w.heap.size+1+1):=by
    obtain ⟨ob,e1,e2⟩:=hc6;cases ob with
    |cells xs e z=>
      obtain ⟨g1,g2⟩:=eS e1;refine ⟨.cells (xs.setIfInBounds 0 y0) e z,?_,rfl⟩;show (w6.heap.modify (w.heap.size+1+1) _)[w.heap.size+1+1]?=_;rw [eG (by rw [Array.size_modify];exact g1),Array.getElem_modify_self,g2];rfl
    |_=>cases e2
  have h8:=h7.other (j:=1) (x:=y1) (show w.heap.size+1+1≠k0 by omega) hnA hc7 (fun v g hv hg=>hv6 v g (by rw [<-hk7];exact hv) hg);have hdw:aI A' B k0 W2 ((w6.setCell ⟨w.heap.size+1+1,0,none⟩ y0).setCell ⟨w.heap.size+1+1,1,none⟩ y1):=((hd5.trans hd6).trans (aI.other (by omega) hnA (by omega))).trans (aI.other (by omega) hnA (by omega));refine ⟨A',a1,fun b hb=>(a2 b hb).imp id (by omega),h8,(aI.left hlt hLw).trans (hdw.mono a1),?_,?_⟩
  rotate_left
  . have q25 : FrC k0 W2 W5 := ⟨by omega, fun b hb hk ho => by
        have e1:W5.heap[b]?=w3.heap[b]?:=by rw [hW5,bS _ _ _ _ hk,bS _ _ _ _ hk]
        exact e1.trans (hg3.block b hb.lt (fun e=>ho ⟨v4,c4',e.symm⟩)),fun b ho=>by
        obtain ⟨x,h1,h2⟩:=ho;rw [k4] at h1;cases h1;rcases hvb b h2 with h3|h3
        . exact .inl ⟨v4,c4',h3⟩
        . exact .inr h3⟩
    have q6:FrC k0 w w6:=((FrC.left hlt hLw).trans q25).trans (FrC.keepC hk6 (hj6 4 (by omega)));exact (q6.fresh (by omega) (by omega)).fresh (by omega) (by omega)
  refine ky (ed hrow fun g hg=>?_) (fun g hg=>by rw [hA'];exact .inr hg);have hg1:=(hrow.lt g hg).2;exact (hdw.tree g (by rw [hA'];exact .inr hg) (by omega)).trans (hL12.block g hg1)
end
theorem pX {w:Wz}{B:Nat}{g cap:Nat}{zs:List (LsA×Option Ww)}(h:w.ownsRow B 125 8 (.slice (some ⟨g,0,none⟩) zs.length cap) zs.length (aV zs))(i:Nat)(hi:i<zs.length)(j:Nat)(hj:j<8):w.cell? ⟨g,i * 8+j,none⟩=(aE (zs[i].1.lst zs[i].2))[j]?:=by
 have e:=dV 8 (fun z:LsA×Option Ww=>(aE (z.1.lst z.2)).toList) (fun _=>rfl) zs i j hi hj;have hx:(aE (zs[i].1.lst zs[i].2))[j]?=some ((aE (zs[i].1.lst zs[i].2))[j]'(by simp [aE];omega)):=eG _;have:=h.cells (g:=g) rfl (i * 8+j) _ (e.trans (by rw [gT];exact hx));rw [Addr.add_lit,zA] at this;rw [this,hx]
theorem kz {w:Wz}{B:Nat}{g cap:Nat}{zs:List (LsA×Option Ww)}(h:w.ownsRow B 125 8 (.slice (some ⟨g,0,none⟩) zs.length cap) zs.length (aV zs))(i:Nat)(hi:i<zs.length):
  w.cell? ⟨g,i * 8,none⟩=some (.int .i64 zs[i].1.num)/\w.cell? ⟨g,i * 8+1,none⟩=some (.pointer zs[i].2)/\w.cell? ⟨g,i * 8+2,none⟩=some (.bool zs[i].1.q.vs)/\w.cell? ⟨g,i * 8+3,none⟩=some (.string zs[i].1.q.p)/\w.cell? ⟨g,i * 8+4,none⟩=some (.string zs[i].1.q.d)/\w.cell? ⟨g,i * 8+5,none⟩=some (.string zs[i].1.q.af)/\w.cell? ⟨g,i * 8+6,none⟩=some (.int .i64 zs[i].1.size)/\w.cell? ⟨g,i * 8+7,none⟩=some (.int .i64 zs[i].1.left):=
 ⟨pX h i hi 0 (by omega),pX h i hi 1 (by omega),pX h i hi 2 (by omega),pX h i hi 3 (by omega),pX h i hi 4 (by omega),pX h i hi 5 (by omega),pX h i hi 6 (by omega),pX h i hi 7 (by omega)⟩
theorem B6 (l:Lst)(bx:Nat)(n:Int)(w:Wz)(c0:w.cell? ⟨bx,0,none⟩=some (.int .i64 n)):Calls Yq.prog 72 #[lV l,.pointer (some ⟨bx,0,none⟩)] w fun e w'=>e=.returned (.bool (l.num==n))/\Below w.heap.size w w':=by
 have hlt:=bC w _ c0;simp only at hlt;unfold lV aE;go_enter (Yq.nq Tryz.func72),Tryz.ntmps72;go_wp2_with fail
 go_ret;exact ⟨rfl,(bR _ _).alloc (lR _) _⟩
def kC (n:Int)(xs:List LsA):Option Nat:=xs.findIdx? (fun x=>x.num==n)
theorem vw (B:Nat)(va:Option Ww)(vc:Nat)(zs:List (LsA×Option Ww))(bx:Nat)(n:Int)(w:Wz)(hz:w.ownsRow B 125 8 (.slice va zs.length vc) zs.length (aV zs))(hl:zs.length<=3)(c0:w.cell? ⟨bx,0,none⟩=some (.int .i64 n)):
  Calls Yq.prog 71 #[.slice va zs.length vc,.func (.func 72) #[] #[.pointer (some ⟨bx,0,none⟩)]] w fun e w'=>e=.returned (.int .i64 (((kC n (zs.map (·.1))).map fun (i:Nat)=>(i:Int)).getD (-1)))/\Below w.heap.size w w':=by
 have HZ:Hid (w.ownsRow B 125 8 (.slice va zs.length vc) zs.length (aV zs)):=hz;have HC:Hid (w.cell? ⟨bx,0,none⟩=some (.int .i64 n)):=c0;obtain ⟨R,hR⟩:∃R:Int,R=((kC n (zs.map (·.1))).map fun (i:Nat)=>(i:Int)).getD (-1):=⟨_,rfl⟩;have HR:Hid (R=((kC n (zs.map (·.1))).map fun (i:Nat)=>(i:Int)).getD (-1)):=hR;rw [<-hR];clear hz hR c0;go_enter (Yq.nq Tryz.func71),Tryz.ntmps71;go_wp2_with fail
 go_loopw [5,8] (fun _ s8 wr=>∃i:Nat,i<=zs.length/\s8=.int .i64 i/\(∀j (hj:j<zs.length),j<i->(zs[j].1.num==n)=false)/\Below w.heap.size w wr) (fun _ s8 _=>zs.length-(intOf s8).toNat)
 case atStart=>exact ⟨0,Nat.zero_le _,rfl,fun _ _ h=>absurd h (by omega),bR _ _⟩
 case round=>
  obtain ⟨i,hi,rfl,hno,hb⟩:=hrel;by_cases hlt:i<zs.length
  .obtain ⟨g,cap,he⟩:∃g cap,Value.slice va zs.length vc=.slice (some ⟨g,0,none⟩) zs.length cap:=by
    rcases HZ.out.2 with ⟨h1,h2⟩|⟨g,cap,cur,h1,-⟩
    .omega
    .exact ⟨g,cap,h1⟩
   cases he;obtain ⟨q0,q1,q2,q3,q4,q5,q6,q7⟩:=kz HZ.out i hlt;replace q0:=ak hb q0;replace q1:=ak hb q1;replace q2:=ak hb q2;replace q3:=ak hb q3;replace q4:=ak hb q4;replace q5:=ak hb q5;replace q6:=ak hb q6;replace q7:=ak hb q7;have HF:=B6 (zs[i].1.lst zs[i].2) bx n wr (ak hb HC.out);have HNO:Hid ((∀j (hj:j<zs.length),j<i->(zs[j].1.num==n)=false)/\Below w.heap.size w wr):=⟨hno,hb⟩;clear hno hb;simp only [lV,aE,LsA.lst] at HF;cases hb2:(zs[i].1.num==n) with
   |true=>
    rw [hb2] at HF;have HE:Hid (R=(i:Int)):=by
     show R=(i:Int);have:kC n (zs.map (·.1))=some i:=by
      unfold kC;rw [List.findIdx?_eq_some_iff_getElem];refine ⟨by simpa using hlt,by simpa using hb2,fun j hj=>?_⟩;have:=HNO.out.1 j (by omega) hj;simpa using this
     rw [HR.out,this];rfl
    go_wp2_with (go_at_call 72;refine HF.mono ?_;clear HF;rintro e w1 ⟨rfl,hb1⟩)
    go_ret;exact ⟨by rw [HE.out];rfl,HNO.out.2.trans (hb1.mono HNO.out.2.size)⟩
   |false=>
    rw [hb2] at HF;go_wp2_with (go_at_call 72;refine HF.mono ?_;clear HF;rintro e w1 ⟨rfl,hb1⟩)
    refine ⟨⟨i+1,by omega,by go_num,fun j hj hji=>?_,HNO.out.2.trans (hb1.mono HNO.out.2.size)⟩,by simp [intOf];omega⟩;by_cases hj2:j=i
    .subst hj2;exact hb2
    .exact HNO.out.1 j hj (by omega)
  .have:i=zs.length:=by omega
   subst this;go_wp2_with fail
   go_ret;refine ⟨?_,hb⟩;have:kC n (zs.map (·.1))=none:=by
    unfold kC;rw [List.findIdx?_eq_none_iff];intro x hx;obtain ⟨z,hz,rfl⟩:=List.mem_map.1 hx;obtain ⟨j,hj,rfl⟩:=gM hz;exact hno j hj hj
   rw [HR.out,this];rfl
def LsA.again (x:LsA)(v:Int):LsA:={x with left:=v}
def fx (L:Lg)(tok:ByteArray):Lg×List ItD×ByteArray×Int:=
 match ec tok L.told with
 |none=>(L,[],⟨#[]⟩,9)
 |some (n,pg)=>
  match kC n L.opened with
  |none=>(L,[],⟨#[]⟩,10)
  |some i=>
   match L.opened[i]? with
   |none=>(L,[],⟨#[]⟩,10)
   |some x=>(⟨L.opened.set i (x.again 10),L.begun,if x.tok pg=⟨#[]⟩ then L.told else ln (x.tok pg) (n,pg+1) L.told,L.tm⟩,x.page pg,x.tok pg,0)
theorem vy {α:Type}(m:Nat)(f:α->List Wq)(hf:∀a,(f a).length=m):∀ (l:List α)(i j:Nat)(a:α)(v:Wq)(_:j<m)(hi:i<l.length),f a=(f l[i]).set j v->(l.set i a).flatMap f=(l.flatMap f).set (i * m+j) v
 | [],i,j,a,v,hj,hi,h=>by simp at hi
 |b::l,0,j,a,v,hj,hi,h=>by
  simp only [List.getElem_cons_zero] at h;simp only [List.set_cons_zero,List.flatMap_cons,Nat.zero_mul,zA];rw [h,List.set_append_left _ _ (by rw [hf];exact hj)]
 |b::l,i+1,j,a,v,hj,hi,h=>by
  simp only [List.getElem_cons_succ] at h;simp only [List.set_cons_succ,List.flatMap_cons];rw [vy m f hf l i j a v hj (by simpa using hi) h,List.set_append_right _ _ (by rw [hf,Nat.add_mul];omega),hf];congr 2;rw [Nat.add_mul];omega
theorem B7 {w:Wz}{B:Nat}{e:Wk}{size g n cap:Nat}{xs:List Wq}(h:w.ownsRow B e size (.slice (some ⟨g,0,none⟩) n cap) n xs)(j:Nat)(_hj:j<xs.length)(v:Wq):(w.setCell ⟨g,j,none⟩ v).ownsRow B e size (.slice (some ⟨g,0,none⟩) n cap) n (xs.set j v):=by
 refine ⟨by rw [List.length_set];exact h.1,?_⟩;rcases h.2 with ⟨h1,-⟩|⟨g',cap',cur,h1,hb,hr,h2,h3,h4,h5⟩
 .cases h1
 .cases h1;obtain ⟨a1,a2⟩:=eS hr;refine .inr ⟨g,cap,cur.setIfInBounds j v,rfl,hb,?_,h2,h3,by simpa using h4,?_⟩
  .show (w.heap.modify g _)[g]?=_;rw [eG (by rw [Array.size_modify];exact a1),Array.getElem_modify_self,a2];rfl
  .rw [Array.toList_setIfInBounds,List.take_set,h5]
section
variable {A:Nat->Prop} {B k0:Nat} {L:Lg}
theorem di.setLeft {w:Wz}(h:di A B w k0 L){g cap:Nat}{zs:List (LsA×Option Ww)}(c4:w.cell? ⟨k0,4,none⟩=some (.slice (some ⟨g,0,none⟩) zs.length cap))(z1:L.opened=zs.map (·.1))(z2:w.ownsRow B 125 8 (.slice (some ⟨g,0,none⟩) zs.length cap) zs.length (aV zs))(z3:¬A g)(z4:∀z∈zs,ai A 41 w z.2 z.1.f)(i:Nat)(hi:i<zs.length)(v:Int):
  di A B (w.setCell ⟨g,i * 8+7,none⟩ (.int .i64 v)) k0 {L with opened:=L.opened.set i (zs[i].1.again v)}/\aI A B k0 w (w.setCell ⟨g,i * 8+7,none⟩ (.int .i64 v)) /\
   (w.setCell ⟨g,i * 8+7,none⟩ (.int .i64 v)).ownsRow B 125 8 (.slice (some ⟨g,0,none⟩) zs.length cap) (zs.set i (zs[i].1.again v,zs[i].2)).length (aV (zs.set i (zs[i].1.again v,zs[i].2)))/\(∀z∈zs.set i (zs[i].1.again v,zs[i].2),ai A 41 (w.setCell ⟨g,i * 8+7,none⟩ (.int .i64 v)) z.2 z.1.f):=by
 have hlow:=h.low;have hgB:B<=g:=(z2.lt g rfl).1;have hne:∀b,b≠g->(w.setCell ⟨g,i * 8+7,none⟩ (.int .i64 v)).heap[b]?=w.heap[b]?:=fun b hb=>bS _ _ _ _ hb
 have hk:=hne k0 (by omega);have hce:∀j,(w.setCell ⟨g,i * 8+7,none⟩ (.int .i64 v)).cell? ⟨k0,j,none⟩=w.cell? ⟨k0,j,none⟩:=fun j=>cB (a:=⟨k0,j,none⟩) hk
 have hown:(w.setCell ⟨g,i * 8+7,none⟩ (.int .i64 v)).ownsRow B 125 8 (.slice (some ⟨g,0,none⟩) zs.length cap) (zs.set i (zs[i].1.again v,zs[i].2)).length (aV (zs.set i (zs[i].1.again v,zs[i].2))):=by
  have e:aV (zs.set i (zs[i].1.again v,zs[i].2))=(aV zs).set (i * 8+7) (.int .i64 v):=vy 8 _ (fun _=>rfl) zs i 7 _ _ (by omega) hi rfl;rw [e,List.length_set];exact B7 z2 _ (by rw [kx];omega) _
 have hnodes:∀z∈zs.set i (zs[i].1.again v,zs[i].2),ai A 41 (w.setCell ⟨g,i * 8+7,none⟩ (.int .i64 v)) z.2 z.1.f:=fun z hz=>by
  refine ai.keep (fun b hb _=>⟨hb,hne b (fun e=>z3 (e▸hb))⟩) 41 _ _ ?_;rcases List.mem_or_eq_of_mem_set hz with hz|rfl
  .exact z4 z hz
  .exact z4 zs[i] (List.getElem_mem hi)
 obtain ⟨mv,c6,hm⟩:=h.told;refine ⟨⟨⟨_,(hce 4).trans c4,zs.set i (zs[i].1.again v,zs[i].2),by rw [z1,List.map_set],by simpa using hown,fun g' hg'=>by cases hg';exact z3,hnodes⟩,(hce 5).trans h.begun,⟨mv,(hce 6).trans c6,?_⟩,fun j=>(fB (a:=⟨k0,j,none⟩) hk).trans (h.frozen j),h.avoid,h.low,fun b hb=>by simpa using h.inn b hb⟩,aI.other (by omega) z3 hgB,hown,hnodes⟩;rcases hm with hm|⟨m,es,clock,m1,m2,m3⟩
 .exact .inl hm
 .refine .inr ⟨m,es,clock,m1,(hne m fun e=>?_).trans m2,m3⟩;subst e;rcases z2.2 with ⟨h1,-⟩|⟨g',cap',cur,h1,-,hr,-⟩
  .cases h1
  .cases h1;rw [hr] at m2;cases m2
end
structure mh (B:Nat)(w:Wz)(g cap:Nat)(zs:List (LsA×Option Ww)):Prop where
 base:B<=g
 obj:∃cur:Array Wq,w.heap[g]?=some (.cells cur 125 (0,0))/\cur.size=cap * 8
 le:zs.length<=cap
 max:cap<=maxLen
 cells:∀i (hi:i<zs.length) j,j<8->w.cell? ⟨g,i * 8+j,none⟩=(aE (zs[i].1.lst zs[i].2))[j]?
theorem mh.of_owns {B:Nat}{w:Wz}{g cap:Nat}{zs:List (LsA×Option Ww)}(h:w.ownsRow B 125 8 (.slice (some ⟨g,0,none⟩) zs.length cap) zs.length (aV zs)):mh B w g cap zs:=by
 have h2:=h.2;rcases h2 with ⟨h1,-⟩|⟨g',cap',cur,h1,hb,hr,h2,h3,h4,-⟩
 .cases h1
 .cases h1;exact ⟨hb,⟨cur,hr,h4⟩,h2,h3,fun i hi j hj=>pX h i hi j hj⟩
theorem mh.owns {B:Nat}{w:Wz}{g cap:Nat}{zs:List (LsA×Option Ww)}(h:mh B w g cap zs):w.ownsRow B 125 8 (.slice (some ⟨g,0,none⟩) zs.length cap) zs.length (aV zs):=by
 obtain ⟨cur,hr,hs⟩:=h.obj;refine ⟨kx zs,.inr ⟨g,cap,cur,rfl,h.base,hr,h.le,h.max,hs,?_⟩⟩;apply List.ext_getElem?;intro t;by_cases ht:t<zs.length * 8
 .have hq:t / 8<zs.length:=by omega
  have e:t=t / 8 * 8+t % 8:=by omega
  have h1:=h.cells (t / 8) hq (t % 8) (by omega);rw [<-e] at h1;have h2:=dV 8 (fun z:LsA×Option Ww=>(aE (z.1.lst z.2)).toList) (fun _=>rfl) zs (t / 8) (t % 8) hq (by omega);rw [<-e] at h2;show _=(zs.flatMap fun z=>(aE (z.1.lst z.2)).toList)[t]?;rw [h2,List.getElem?_take,if_pos ht,gT,gT,<-h1,cell_of_row w g t cur 125 (0,0) hr]
 .rw [List.getElem?_eq_none (by simp;omega),List.getElem?_eq_none (by rw [kx];omega)]
theorem mh.same {B:Nat}{w w':Wz}{g cap:Nat}{zs:List (LsA×Option Ww)}(h:mh B w g cap zs)(e:w'.heap[g]?=w.heap[g]?):mh B w' g cap zs:=
 ⟨h.base,by rw [e];exact h.obj,h.le,h.max,fun i hi j hj=>(cB (a:=⟨g,i * 8+j,none⟩) e).trans (h.cells i hi j hj)⟩
theorem mh.lt {B:Nat}{w:Wz}{g cap:Nat}{zs:List (LsA×Option Ww)}(h:mh B w g cap zs):g<w.heap.size:=by
 obtain ⟨cur,h,-⟩:=h.obj;exact (eS h).1
theorem ij {w:Wz}{g n j:Nat}{e:Wk}{v:Wq}(h:∃cur:Array Wq,w.heap[g]?=some (.cells cur e (0,0))/\cur.size=n):∃cur:Array Wq,(w.setCell ⟨g,j,none⟩ v).heap[g]?=some (.cells cur e (0,0))/\cur.size=n:=by
 obtain ⟨cur,h1,h2⟩:=h;obtain ⟨a1,a2⟩:=eS h1;refine ⟨cur.setIfInBounds j v,?_,by simpa using h2⟩;show (w.heap.modify g _)[g]?=_;rw [eG (by rw [Array.size_modify];exact a1),Array.getElem_modify_self,a2];rfl
theorem mh.frozen {B:Nat}{w:Wz}{g cap:Nat}{zs:List (LsA×Option Ww)}(h:mh B w g cap zs)(j:Nat):w.frozen? ⟨g,j,none⟩=false:=by
 obtain ⟨cur,h,-⟩:=h.obj;simp [World.frozen?,h]
def set8 (w:Wz)(g i:Nat)(l:Lst):Wz:=
 (((((((w.setCell ⟨g,i * 8,none⟩ (.int .i64 l.num)).setCell ⟨g,i * 8+1,none⟩ (.pointer l.root)).setCell ⟨g,i * 8+2,none⟩ (.bool l.vs)).setCell ⟨g,i * 8+3,none⟩ (.string l.p)).setCell ⟨g,i * 8+4,none⟩ (.string l.d)).setCell ⟨g,i * 8+5,none⟩ (.string l.af)).setCell ⟨g,i * 8+6,none⟩ (.int .i64 l.size)).setCell ⟨g,i * 8+7,none⟩ (.int .i64 l.left)
theorem B8 {w:Wz}{g i n:Nat}{e:Wk}{l:Lst}(h:∃cur:Array Wq,w.heap[g]?=some (.cells cur e (0,0))/\cur.size=n):∃cur:Array Wq,(set8 w g i l).heap[g]?=some (.cells cur e (0,0))/\cur.size=n:=
 ij (ij (ij (ij (ij (ij (ij (ij h)))))))
theorem B9 {w:Wz}{g i t:Nat}{l:Lst}(h:t<i * 8\/i * 8+8<=t):(set8 w g i l).cell? ⟨g,t,none⟩=w.cell? ⟨g,t,none⟩:=by
 unfold set8
 iterate 8 rw [cO _ _ _ _ (bE (by omega))]
theorem aM {w:Wz}{g a b:Nat}{v:Wq}(h:(w.cell? ⟨g,b,none⟩).isSome=true):((w.setCell ⟨g,a,none⟩ v).cell? ⟨g,b,none⟩).isSome=true:=by
 by_cases e:a=b
 .subst e;rw [cS _ _ _ h];rfl
 .rw [cO _ _ _ _ (bE e)];exact h
theorem zP {w:Wz}{g i:Nat}{l:Lst}(h:∀j,j<8->(w.cell? ⟨g,i * 8+j,none⟩).isSome=true)(j:Nat)(hj:j<8):(set8 w g i l).cell? ⟨g,i * 8+j,none⟩=(aE l)[j]?:=by
 have e0:(set8 w g i l).cell? ⟨g,i * 8,none⟩=(aE l)[0]?:=by
  unfold set8
  iterate 7 rw [cO _ _ _ _ (bE (by omega))]
  exact cS _ _ _ (h 0 (by omega))
 have e1:(set8 w g i l).cell? ⟨g,i * 8+1,none⟩=(aE l)[1]?:=by
  unfold set8
  iterate 6 rw [cO _ _ _ _ (bE (by omega))]
  exact cS _ _ _ (aM (h 1 (by omega)))
 have e2:(set8 w g i l).cell? ⟨g,i * 8+2,none⟩=(aE l)[2]?:=by
  unfold set8
  iterate 5 rw [cO _ _ _ _ (bE (by omega))]
  exact cS _ _ _ (aM (aM (h 2 (by omega))))
 have e3:(set8 w g i l).cell? ⟨g,i * 8+3,none⟩=(aE l)[3]?:=by
  unfold set8
  iterate 4 rw [cO _ _ _ _ (bE (by omega))]
  exact cS _ _ _ (aM (aM (aM (h 3 (by omega)))))
 have e4:(set8 w g i l).cell? ⟨g,i * 8+4,none⟩=(aE l)[4]?:=by
  unfold set8
  iterate 3 rw [cO _ _ _ _ (bE (by omega))]
  exact cS _ _ _ (aM (aM (aM (aM (h 4 (by omega))))))
 have e5:(set8 w g i l).cell? ⟨g,i * 8+5,none⟩=(aE l)[5]?:=by
  unfold set8
  iterate 2 rw [cO _ _ _ _ (bE (by omega))]
  exact cS _ _ _ (aM (aM (aM (aM (aM (h 5 (by omega)))))))
 have e6:(set8 w g i l).cell? ⟨g,i * 8+6,none⟩=(aE l)[6]?:=by
  unfold set8
  iterate 1 rw [cO _ _ _ _ (bE (by omega))]
  exact cS _ _ _ (aM (aM (aM (aM (aM (aM (h 6 (by omega))))))))
 have e7:(set8 w g i l).cell? ⟨g,i * 8+7,none⟩=(aE l)[7]?:=by
  unfold set8;exact cS _ _ _ (aM (aM (aM (aM (aM (aM (aM (h 7 (by omega)))))))))
 rcases j with - | - | - | - | - | - | - | - |j
 .exact e0
 .exact e1
 .exact e2
 .exact e3
 .exact e4
 .exact e5
 .exact e6
 .exact e7
 .omega
theorem mh.set8 {B:Nat}{w:Wz}{g cap:Nat}{zs:List (LsA×Option Ww)}(h:mh B w g cap zs)(i:Nat)(hi:i<zs.length)(z:LsA×Option Ww):mh B (set8 w g i (z.1.lst z.2)) g cap (zs.set i z):=by
 refine ⟨h.base,B8 h.obj,by rw [List.length_set];exact h.le,h.max,fun k hk j hj=>?_⟩;have hk':k<zs.length:=by simpa using hk
 by_cases hki:k=i
 .subst hki;rw [zP (fun j hj=>by rw [h.cells k hk' j hj];simp [aE];omega) j hj];simp
 .rw [B9 (by omega),h.cells k hk' j hj,List.getElem_set_ne (by omega)]
section
variable {P:Program}
theorem ul (w:Wz)(t e ty:Wk)(z:Wq)(ht:P.underlying t=some (.slice e))(hv:∀w,(zeroValue e).run P w=.ok z w)(h1:∀v∈z.cells.toList,v.oneCell'=true)
  (g o n c:Nat) (cur:Array Wq) (T:Wk) (hg:w.heap[g]?=some (.cells cur T (0,0))) (hn:0<n) (hfit:o+n * z.cells.size<=cur.size):
  ∃cur',(Builtin.clear_ #[t] ty #[.slice (some ⟨g,o,none⟩) n c]).run P w=.ok (.tuple #[]) (w.setRow g cur')/\cur'.size=cur.size/\cur'.toList.take o=cur.toList.take o:=by
 have hzs:(Builtin.zeroCells z.cells n).size=n * z.cells.size:=by simp [Builtin.zeroCells]
 have hone:∀v∈(Builtin.zeroCells z.cells n).toList,v.oneCell'=true:=fun v hv=>by
  have hv:=Array.mem_toList_iff.1 hv;obtain ⟨k,hk,rfl⟩:=Array.getElem_of_mem hv;have hk2:k<n * z.cells.size:=by rw [<-hzs];exact hk
  have hz0:0<z.cells.size:=by
   rcases Nat.eq_zero_or_pos z.cells.size with h|h
   .rw [h] at hk2;omega
   .exact h
  simp only [Builtin.zeroCells,Array.getElem_map,Array.getElem_range];have:k % z.cells.size<z.cells.size:=Nat.mod_lt _ hz0;rw [getElem!_pos z.cells (k % z.cells.size) this];exact h1 _ (by simp)
 have hst:=run_storeCells_at P g o T (Builtin.zeroCells z.cells n).toList 0 cur w hg (by rw [lY,hzs];omega) hone;simp only [Nat.add_zero,lY] at hst;refine ⟨(cur.toList.take o++(Builtin.zeroCells z.cells n).toList++cur.toList.drop (o+(Builtin.zeroCells z.cells n).size)).toArray,?_,?_,?_⟩
 .obtain ⟨m,rfl⟩:∃m,n=m+1:=⟨n-1,by omega⟩;simp [Builtin.clear_,run_underlying ht,hv,hst]
 .simp [hzs];omega
 .simp;rw [List.take_append_of_le_length (by simp;omega),List.take_take];simp
end
end
