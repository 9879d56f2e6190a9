/- A part. -/
import Derived.Test.YtnapepbdohidgaaGreatDoorQL06
import Derived.ArgAppend
import Derived.Laws.IdiomStrings
set_option maxHeartbeats 4000000
set_option maxRecDepth 100000
open Go renaming World->Wj,Value->Wx,Addr->Wu
namespace Go.Proofs.Qw
open Tryz
section
open Go.RowKit
structure Ver where
 num:Int
 body:ByteArray
 mark:Bool
def am (h:List Ver):List Wx:=h.flatMap fun v=>[.int .i64 v.num,.string v.body,.bool v.mark]
def aB (ks:List (UInt8×Option Wu)):List Wx:=ks.flatMap fun k=>[.int .u8 (k.1.toNat:Int),.pointer k.2]
def bO (A:Nat->Prop)(w:Wj)(v:Wx)(n:Nat)(xs:List Wx):Prop:=
 ∃a cap,v=.slice a n cap/\(a=none->cap=0)/\(xs≠[]->∃g,a=some ⟨g,0,none⟩/\A g/\g<w.heap.size/\∀j,j<xs.length->w.cell? ⟨g,j,none⟩=xs[j]?)
def bf (A:Nat->Prop)(w:Wj)(v:Wx)(h:List Ver):Prop:=bO A w v h.length (am h)
def fR (A:Nat->Prop)(w:Wj)(v:Wx)(ks:List (UInt8×Option Wu)):Prop:=bO A w v ks.length (aB ks)
def ak (A:Nat->Prop):Nat->Wj->Option Wu->(List UInt8->List Ver)->Prop
 | 0,_,p,f=>p=none/\∀k,f k=[]
 |n+1,w,p,f=>(p=none/\∀k,f k=[])\/∃g hv kv ks,p=some ⟨g,0,none⟩/\A g/\w.cell? ⟨g,0,none⟩=some (.bool (!(f []).isEmpty))/\w.cell? ⟨g,1,none⟩=some hv /\
   w.cell? ⟨g,2,none⟩=some kv/\bf A w hv (f [])/\fR A w kv ks/\ks.Pairwise (fun a b=>a.1<b.1) /\
   (∀c q,(c,q)∈ks->ak A n w q (fun k=>f (c::k)))/\(∀c,(∀q,(c,q) ∉ ks)->∀k,f (c::k)=[])/\∀c q,(c,q)∈ks->q≠none
theorem bO.keep {A A':Nat->Prop}{w w':Wj}{v:Wx}{n:Nat}{xs:List Wx}(h:bO A w v n xs)
  (hk:∀b,A b->b<w.heap.size->A' b/\w'.heap[b]?=w.heap[b]?):bO A' w' v n xs:=by
 obtain ⟨a,cap,hv,c,hx⟩:=h;refine ⟨a,cap,hv,c,fun hne=>?_⟩;obtain ⟨g,ha,hA,hg,hc⟩:=hx hne;obtain ⟨h1,h2⟩:=hk g hA hg;refine ⟨g,ha,h1,?_,fun j d=>?_⟩
 .have:w'.heap[g]?.isSome:=by rw [h2];simp [hg]
  simpa using this
 .rw [cB (w:=w) (w':=w') (a:=⟨g,j,none⟩) h2];exact hc j d
theorem ak.keep {A A':Nat->Prop}{w w':Wj}(hk:∀b,A b->b<w.heap.size->A' b/\w'.heap[b]?=w.heap[b]?):
  ∀ (n:Nat) (p:Option Wu) (f:List UInt8->List Ver),ak A n w p f->ak A' n w' p f:=by
 intro n;induction n with
 |zero=>intro p f h;exact h
 |succ n ih=>
  intro p f h;rcases h with h|⟨g,hv,kv,ks,hp,hA,c0,c1,c2,e,d,hs,hch,hno⟩
  .exact Or.inl h
  .have hg:=bC w _ c0;obtain ⟨h1,h2⟩:=hk g hA hg;refine Or.inr ⟨g,hv,kv,ks,hp,h1,?_,?_,?_,e.keep hk,d.keep hk,hs,fun c q hq=>ih q _ (hch c q hq),hno⟩
   .rw [cB (w:=w) (w':=w') (a:=⟨g,0,none⟩) h2];exact c0
   .rw [cB (w:=w) (w':=w') (a:=⟨g,1,none⟩) h2];exact c1
   .rw [cB (w:=w) (w':=w') (a:=⟨g,2,none⟩) h2];exact c2
theorem rF {A:Nat->Prop}{w w':Wj}(hb:Below w.heap.size w w'):∀b,A b->b<w.heap.size->A b/\w'.heap[b]?=w.heap[b]?:=
 fun b ha hlt=>⟨ha,hb.block b hlt⟩
theorem ak.on {A:Nat->Prop}{w w':Wj}{n:Nat}{p:Option Wu}{f:List UInt8->List Ver}(h:ak A n w p f)(hb:Below w.heap.size w w'):ak A n w' p f:=
 ak.keep (rF hb) n p f h
theorem bO.on {A:Nat->Prop}{w w':Wj}{v:Wx}{n:Nat}{xs:List Wx}(h:bO A w v n xs)(hb:Below w.heap.size w w'):bO A w' v n xs:=h.keep (rF hb)
theorem gt {α:Type}(m:Nat)(g:α->List Wx)(hg:∀a,(g a).length=m)(l:List α):(l.flatMap g).length=l.length * m:=by
 induction l with
 |nil=>simp
 |cons a l ih=>simp [ih,hg];rw [Nat.add_mul,Nat.one_mul,Nat.add_comm]
theorem cu {α:Type}(m:Nat)(g:α->List Wx)(hg:∀a,(g a).length=m)(l:List α)(i j:Nat)(b:i<l.length)(c:j<m):
  (l.flatMap g)[i * m+j]?=(g l[i])[j]?:=by
 induction l generalizing i with
 |nil=>simp at b
 |cons a l ih=>
  rw [List.flatMap_cons];cases i with
  |zero=>simp only [Nat.zero_mul,zA,List.getElem_cons_zero];rw [aL (by rw [hg];exact c)]
  |succ i=>
   rw [aR (by rw [hg,Nat.add_mul,Nat.one_mul];omega),hg];have e:(i+1) * m+j-m=i * m+j:=by rw [Nat.add_mul,Nat.one_mul];omega
   rw [e,ih i (by simpa using b)];rfl
theorem fu (h:List Ver):(am h).length=h.length * 3:=gt 3 _ (fun _=>rfl) h
theorem ep (ks:List (UInt8×Option Wu)):(aB ks).length=ks.length * 2:=gt 2 _ (fun _=>rfl) ks
theorem up {h:List Ver}(hne:h≠[]):am h≠[]:=by
 intro e;have:=fu h;rw [e] at this;simp only [lN] at this;exact hne (List.length_eq_zero_iff.1 (by omega))
theorem uq {h:List (UInt8×Option Wu)}(hne:h≠[]):aB h≠[]:=by
 intro e;have:=ep h;rw [e] at this;simp only [lN] at this;exact hne (List.length_eq_zero_iff.1 (by omega))
theorem bf.cells {A:Nat->Prop}{w:Wj}{v:Wx}{h:List Ver}(c:bf A w v h)(hne:h≠[]):
  ∃g cap,v=.slice (some ⟨g,0,none⟩) h.length cap/\A g/\g<w.heap.size/\(∀i (b:i<h.length),w.cell? ⟨g,i * 3,none⟩=some (.int .i64 h[i].num)/\w.cell? ⟨g,i * 3+1,none⟩=some (.string h[i].body)/\w.cell? ⟨g,i * 3+2,none⟩=some (.bool h[i].mark)) /\
   ∀j,j<(am h).length->w.cell? ⟨g,j,none⟩=(am h)[j]?:=by
 obtain ⟨a,cap,hv,-,hx⟩:=c;obtain ⟨g,ha,hA,hg,hc⟩:=hx (up hne);subst ha;refine ⟨g,cap,hv,hA,hg,fun i b=>?_,hc⟩;have hl:=fu h;refine ⟨?_,?_,?_⟩
 .rw [hc (i * 3) (by omega)];exact cu 3 _ (fun _=>rfl) h i 0 b (by omega)
 .rw [hc (i * 3+1) (by omega)];exact cu 3 _ (fun _=>rfl) h i 1 b (by omega)
 .rw [hc (i * 3+2) (by omega)];exact cu 3 _ (fun _=>rfl) h i 2 b (by omega)
theorem fR.cells {A:Nat->Prop}{w:Wj}{v:Wx}{h:List (UInt8×Option Wu)}(c:fR A w v h)(hne:h≠[]):
  ∃g cap,v=.slice (some ⟨g,0,none⟩) h.length cap/\A g/\g<w.heap.size/\(∀i (b:i<h.length),w.cell? ⟨g,i * 2,none⟩=some (.int .u8 (h[i].1.toNat:Int))/\w.cell? ⟨g,i * 2+1,none⟩=some (.pointer h[i].2)) /\
   ∀j,j<(aB h).length->w.cell? ⟨g,j,none⟩=(aB h)[j]?:=by
 obtain ⟨a,cap,hv,-,hx⟩:=c;obtain ⟨g,ha,hA,hg,hc⟩:=hx (uq hne);subst ha;refine ⟨g,cap,hv,hA,hg,fun i b=>?_,hc⟩;have hl:=ep h;refine ⟨?_,?_⟩
 .rw [hc (i * 2) (by omega)];exact cu 2 _ (fun _=>rfl) h i 0 b (by omega)
 .rw [hc (i * 2+1) (by omega)];exact cu 2 _ (fun _=>rfl) h i 1 b (by omega)
theorem ur (ks:List (UInt8×Option Wu))(m:Nat)(hs:ks.Pairwise (fun a b=>a.1<b.1))(hm:∀k∈ks,m<=k.1.toNat)(hm2:m<=256):ks.length+m<=256:=by
 induction ks generalizing m with
 |nil=>simpa using hm2
 |cons a ks ih=>
  obtain ⟨h1,h2⟩:=List.pairwise_cons.1 hs;have ha:=hm a (List.mem_cons_self ..);have hlt:=a.1.toNat_lt;have:=ih (a.1.toNat+1) h2 (fun k hk=>by have:=UInt8.lt_iff_toNat_lt.1 (h1 k hk);omega) (by omega);simp only [lC];omega
theorem kG (ks:List (UInt8×Option Wu))(hs:ks.Pairwise (fun a b=>a.1<b.1)):ks.length<=256:=by
 have:=ur ks 0 hs (fun _ _=>Nat.zero_le _) (by omega);omega
theorem jh {ks:List (UInt8×Option Wu)}(hs:ks.Pairwise (fun a b=>a.1<b.1))(i j:Nat)(c:i<j)(d:j<ks.length):(ks[i].1.toNat:Int)<(ks[j].1.toNat:Int):=by
 have:=List.pairwise_iff_getElem.1 hs i j (by omega) d c;have:=UInt8.lt_iff_toNat_lt.1 this;omega
end
section
open Go.Conc Go.ConcX Go.ConcX.Gen Go.RowKit
structure gK (B:Nat)(w:Wj)(g cap:Nat)(bs:List UInt8):Prop where
 base:B<=g
 obj:∃x e z,w.heap[g]?=some (.cells x e z)
 le:bs.length<=cap
 cells:∀j (hj:j<bs.length),w.cell? ⟨g,j,none⟩=some (.int .u8 (bs[j].toNat:Int))
 room:∀j,j<cap->(w.cell? ⟨g,j,none⟩).isSome=true/\w.frozen? ⟨g,j,none⟩=false
theorem gK.lt {B:Nat}{w:Wj}{g cap:Nat}{bs:List UInt8}(K:gK B w g cap bs):g<w.heap.size:=by
 obtain ⟨x,e,z,h⟩:=K.obj;exact (eS h).1
def mn (g cap:Nat)(bs:List UInt8):Wx:=.slice (some ⟨g,0,none⟩) bs.length cap
theorem gK.same {B:Nat}{w w':Wj}{g cap:Nat}{bs:List UInt8}(K:gK B w g cap bs)(h:w'.heap[g]?=w.heap[g]?):gK B w' g cap bs:=by
 exact ⟨K.base,by rw [h];exact K.obj,K.le,fun j b=>(cB (a:=⟨g,j,none⟩) h).trans (K.cells j b),fun j b=>by
  rw [cB (a:=⟨g,j,none⟩) h,fB (a:=⟨g,j,none⟩) h];exact K.room j b⟩
theorem gK.take {B:Nat}{w:Wj}{g cap:Nat}{bs:List UInt8}{b:UInt8}(K:gK B w g cap (bs++[b])):gK B w g cap bs:=by
 refine ⟨K.base,K.obj,by have:=K.le;simp at this;omega,fun j a=>?_,K.room⟩;rw [K.cells j (by simp;omega),List.getElem_append_left a]
theorem Yq.infoByte:(Yq.prog.info? 5).map (fun i=>(i.zero,i.size,i.bytes))=some (some (.int .u8 0),1,1):=by kernel_rfl
theorem fd {g i j:Nat}(h:i≠j):(⟨g,i,none⟩:Wu)≠⟨g,j,none⟩:=by simp
theorem xK {B:Nat}{w:Wj}{g cap:Nat}{bs:List UInt8}(K:gK B w g cap bs)(G:B<=w.heap.size)(hl:bs.length<=1000)(n:Nat)(b:UInt8)(hb:w.cell? ⟨n,0,none⟩=some (.int .u8 (b.toNat:Int)))(C:TypeId):
  ∃g' a w',(Builtin.append_ #[48,48] C #[mn g cap bs,.slice (some ⟨n,0,none⟩) 1 1]).run Yq.prog w=.ok (mn g' a (bs++[b])) w'/\gK B w' g' a (bs++[b])/\(g'=g/\a=cap\/w.heap.size<=g'/\w'.heap[g]?=w.heap[g]?) /\
   (∀k,k<w.heap.size->k≠g->w'.heap[k]?=w.heap[k]?)/\w.heap.size<=w'.heap.size/\w'.os=w.os:=by
 obtain ⟨i0,E,y,i,A⟩:=info_parts Yq.infoByte;have l:∀j u,[Value.int .u8 (b.toNat:Int)][j]?=some u->w.cell? ((⟨n,0,none⟩:Wu).add j)=some u:=fun j u c=>by
  cases j with
  |zero=>simp at c;subst c;rw [Addr.add_lit];exact hb
  |succ j=>simp at c
 have h1:∀u∈[Value.int .u8 (b.toNat:Int)],u.oneCell'=true:=fun u F=>by simp at F;subst F;rfl
 by_cases hr:bs.length+1<=cap
 .have hroom:=K.room bs.length (by omega);have s:∀j,j < [Value.int .u8 (b.toNat:Int)].length->j=0:=fun j c=>by simp at c;omega
  have hrun:=run_append_room_cells (P:=Yq.prog) w 48 C 5 i0 (Yq.u underlying48) E g 0 bs.length cap ⟨n,0,none⟩ 1 1 [.int .u8 (b.toNat:Int)] (by simp [i]) l h1 hr (fun j c=>by rw [s j c];simpa [i] using hroom.1) (fun j c=>by rw [s j c];simpa [i] using hroom.2);have e:w.setCells g (0+bs.length * i0.size) [.int .u8 (b.toNat:Int)]=w.setCell ⟨g,bs.length,none⟩ (.int .u8 (b.toNat:Int)):=by simp [World.setCells,i]
  rw [e] at hrun;obtain ⟨u0,t⟩:=Option.isSome_iff_exists.1 hroom.1;have hsz:(w.setCell ⟨g,bs.length,none⟩ (.int .u8 (b.toNat:Int))).heap.size=w.heap.size:=by simp
  have D:∃x e z,(w.setCell ⟨g,bs.length,none⟩ (.int .u8 (b.toNat:Int))).heap[g]?=some (.cells x e z):=by
   obtain ⟨x,e,z,h⟩:=K.obj;refine ⟨x.setIfInBounds bs.length (.int .u8 (b.toNat:Int)),e,z,?_⟩;obtain ⟨h1,h2⟩:=eS h;show (w.heap.modify g _)[g]?=_;rw [eG (by rw [Array.size_modify];exact h1),Array.getElem_modify_self,h2];rfl
  refine ⟨g,cap,_,by simpa [mn] using hrun,⟨K.base,D,by simpa using hr,fun j c=>?_,fun j c=>?_⟩,.inl ⟨rfl,rfl⟩,fun k _ hk=>bS _ _ _ _ hk,by rw [hsz];exact lR _,((bR 0 w).setCell (p:=⟨g,bs.length,none⟩) (Nat.zero_le _) _).os⟩
  .by_cases f:j=bs.length
   .subst f;rw [cS _ _ _ (by rw [t];rfl)];simp
   .rw [cO _ _ _ _ (fd fun e=>f e.symm),K.cells j (by simp at c;omega),List.getElem_append_left (by simp at c;omega)]
  .have:=K.room j c;refine ⟨?_,by rw [World.frozen?_setCell];exact this.2⟩;by_cases f:j=bs.length
   .subst f;rw [cS _ _ _ (by rw [t];rfl)];rfl
   .rw [cO _ _ _ _ (fd fun e=>f e.symm)];exact this.1
 .obtain ⟨v',w',hrun,hown,d⟩:=run_append_arg_grows (P:=Yq.prog) w 48 C 5 i0 _ 1 1 (Yq.u underlying48) E y i A rfl (by decide) ⟨g,0,none⟩ bs.length cap (bs.map fun b=>Value.int .u8 (b.toNat:Int)) (by simp) (fun j u c=>by
   rw [Addr.add_lit,zA];obtain ⟨r,f⟩:=List.getElem?_eq_some_iff.1 c;simp at r;rw [K.cells j r,<-f];simp) ⟨n,0,none⟩ 1 1 [.int .u8 (b.toNat:Int)] rfl l (by omega) (by simp only [maxLen];omega) (by omega)
  rcases hown.2 with ⟨-,h⟩|⟨g',a,q,rfl,o,m,hle,hm,hs,htake⟩
  .omega
  have v:∀j,w'.cell? ⟨g',j,none⟩=q[j]?:=fun j=>cell_of_row w' g' j q 5 (0,0) m
  refine ⟨g',a,w',?_,⟨lT G o,⟨_,_,_,m⟩,by simpa using hle,fun j c=>?_,fun j c=>?_⟩,.inr ⟨o,d.block g K.lt (by simp)⟩,fun k hk _=>d.block k hk (by simp),d.size,d.os⟩
  .rw [show mn g' a (bs++[b])=.slice (some ⟨g',0,none⟩) (bs.length+1) a by simp [mn]];exact hrun
  .have hc:=hown.cells (g:=g') rfl j (.int .u8 ((bs++[b])[j].toNat:Int)) (by
    rw [List.getElem?_append];by_cases h:j<bs.length
    .simp [h]
    .have:j=bs.length:=by simp at c;omega
     subst this;simp)
   rw [Addr.add_lit,zA] at hc;exact hc
  .rw [v,World.frozen?,m];simp [hs,c]
def yT:List UInt8:=(List.range 256).map UInt8.ofNat
def cI:Nat->(List UInt8->List Ver)->List UInt8->List (List UInt8×List Ver)
 | 0,_,_=>[]
 |n+1,f,bs=>(if (f []).isEmpty then [] else [(bs,f [])])++yT.flatMap fun b=>cI n (fun k=>f (b::k)) (bs++[b])
theorem nD (n:Nat)(f:List UInt8->List Ver)(bs:List UInt8)(h:∀k,f k=[]):cI n f bs=[]:=by
 induction n generalizing f bs with
 |zero=>rfl
 |succ n ih=>simp [cI,h,ih]
theorem gu {α β:Type}(g:UInt8->List β):∀ (l:List UInt8)(ks:List (UInt8×α)),l.Pairwise (· < ·)->ks.Pairwise (fun a b=>a.1<b.1)->(∀k∈ks,k.1∈l)->(∀b∈l,(∀q,(b,q) ∉ ks)->g b=[])->l.flatMap g=ks.flatMap fun k=>g k.1
 | [],ks,_,_,hk,_=>by
  cases ks with
  |nil=>rfl
  |cons a ks=>exact absurd (hk a (by simp)) (by simp)
 |b::l,ks,hl,hs,hk,hg=>by
  obtain ⟨f,e⟩:=List.pairwise_cons.1 hl;cases ks with
  |nil=>
   rw [List.flatMap_cons,hg b (by simp) (by simp)];exact gu g l [] e hs (by simp) (fun b hb h=>hg b (by simp [hb]) h)
  |cons a ks=>
   obtain ⟨hs1,hs2⟩:=List.pairwise_cons.1 hs;rw [List.flatMap_cons];by_cases d:a.1=b
   .rw [List.flatMap_cons,d];congr 1;refine gu g l ks e hs2 (fun k hk2=>?_) (fun c hc h=>hg c (by simp [hc]) (fun q hq=>?_))
    .have h1:=hk k (by simp [hk2]);have h2:=hs1 k hk2;rcases List.mem_cons.1 h1 with h|h
     .rw [h,<-d] at h2;exact absurd h2 (by simp)
     .exact h
    .rcases List.mem_cons.1 hq with h3|h3
     .have h4:=f c hc;rw [<-d,<-h3] at h4;exact absurd h4 (by simp)
     .exact h q h3
   .have hlt:b<a.1:=by
     rcases List.mem_cons.1 (hk a (by simp)) with h|h
     .exact absurd h d
     .exact f _ h
    rw [hg b (by simp) (fun q hq=>?_),List.nil_append]
    .refine gu g l (a::ks) e hs (fun k hk2=>?_) (fun c hc h=>hg c (by simp [hc]) h);rcases List.mem_cons.1 (hk k hk2) with h|h
     .exfalso;rcases List.mem_cons.1 hk2 with h5|h5
      .rw [h5] at h;exact d h
      .have h6:=hs1 k h5;rw [h] at h6;exact absurd h6 (UInt8.lt_asymm hlt)
     .exact h
    .rcases List.mem_cons.1 hq with h5|h5
     .exact d (by rw [<-h5])
     .have h6:=hs1 _ h5;exact absurd h6 (UInt8.lt_asymm hlt)
theorem mJ (b:UInt8):b∈yT:=List.mem_map.2 ⟨b.toNat,List.mem_range.2 b.toNat_lt,by simp⟩
theorem ji:yT.Pairwise (· < ·):=by
 rw [yT,List.pairwise_map];refine List.pairwise_lt_range.imp_of_mem fun ha hb h=>?_
 have:=List.mem_range.1 ha;have:=List.mem_range.1 hb;rw [UInt8.lt_iff_toNat_lt];simp;omega
theorem xL (n:Nat)(f:List UInt8->List Ver)(bs:List UInt8)(ks:List (UInt8×Option Wu))(hs:ks.Pairwise (fun a b=>a.1<b.1))(hno:∀c,(∀q,(c,q) ∉ ks)->∀k,f (c::k)=[]):
  cI (n+1) f bs=(if (f []).isEmpty then [] else [(bs,f [])])++ks.flatMap fun k=>cI n (fun x=>f (k.1::x)) (bs++[k.1]):=by
 rw [cI];congr 1;exact gu (fun b=>cI n (fun x=>f (b::x)) (bs++[b])) yT ks ji hs (fun k _=>mJ _) (fun b _ h=>nD _ _ _ (hno b h))
abbrev KVs:=List (List UInt8×List Ver)
def dR (t:Nat)(W W':Wj):Prop:=W.heap.size<=W'.heap.size/\W'.os=W.os/\∀ (b:Nat)(o:Obj),W.heap[b]?=some o->o.isCells=true->b≠t->W'.heap[b]?=some o
theorem dR.refl (t:Nat)(W:Wj):dR t W W:=⟨lR _,rfl,fun _ _ h _ _=>h⟩
theorem dR.trans {t:Nat}{W W' W'':Wj}(h:dR t W W')(k:dR t W' W''):dR t W W'':=⟨lT h.1 k.1,k.2.1.trans h.2.1,fun b o hb ho ht=>k.2.2 b o (h.2.2 b o hb ho ht) ho ht⟩
def fe (O:Wj->Nat->Prop)(t:Nat)(W W':Wj):Prop:=W.heap.size<=W'.heap.size/\W'.os=W.os/\(∀b,O W' b->O W b\/W.heap.size<=b)/\∀ (b:Nat)(o:Obj),W.heap[b]?=some o->o.isCells=true->b≠t->¬O W b->W'.heap[b]?=some o
theorem fe.refl (O:Wj->Nat->Prop)(t:Nat)(W:Wj):fe O t W W:=⟨lR _,rfl,fun _ h=>.inl h,fun _ _ h _ _ _=>h⟩
theorem Eb {O:Wj->Nat->Prop}{W W' W'':Wj}(hs:W.heap.size<=W'.heap.size)(h:∀b,O W' b->O W b\/W.heap.size<=b)(k:∀b,O W'' b->O W' b\/W'.heap.size<=b):∀b,O W'' b->O W b\/W.heap.size<=b:=fun b hb=>by
 rcases k b hb with h1|h1
 .exact h b h1
 .exact .inr (by omega)
theorem vO {O:Wj->Nat->Prop}{W W':Wj}{b:Nat}{o:Obj}(h:∀b,O W' b->O W b\/W.heap.size<=b)(hb:W.heap[b]?=some o)(hn:¬O W b):¬O W' b:=fun hO=>by
 rcases h b hO with h1|h1
 .exact hn h1
 .have:=(eS hb).1;omega
theorem fe.trans {O:Wj->Nat->Prop}{t:Nat}{W W' W'':Wj}(h:fe O t W W')(k:fe O t W' W''):fe O t W W'':=⟨lT h.1 k.1,k.2.1.trans h.2.1,Eb h.1 h.2.2.1 k.2.2.1,fun b o hb ho ht hn=>k.2.2.2 b o (h.2.2.2 b o hb ho ht hn) ho ht (vO h.2.2.1 hb hn)⟩
def gw (O:Wj->Nat->Prop)(g t:Nat)(W W':Wj):Prop:=W.heap.size<=W'.heap.size/\W'.os=W.os/\(∀b,O W' b->O W b\/W.heap.size<=b)/\∀ (b:Nat)(o:Obj),W.heap[b]?=some o->o.isCells=true->b≠t->b≠g->¬O W b->W'.heap[b]?=some o
theorem gw.trans {O:Wj->Nat->Prop}{g t:Nat}{W W' W'':Wj}(h:gw O g t W W')(k:gw O g t W' W''):gw O g t W W'':=⟨lT h.1 k.1,k.2.1.trans h.2.1,Eb h.1 h.2.2.1 k.2.2.1,fun b o hb ho ht hg hn=>k.2.2.2 b o (h.2.2.2 b o hb ho ht hg hn) ho ht hg (vO h.2.2.1 hb hn)⟩
theorem fe.row {O:Wj->Nat->Prop}{t:Nat}{W W':Wj}(h:fe O t W W')(g:Nat):gw O g t W W':=⟨h.1,h.2.1,h.2.2.1,fun b o hb ho ht _ hn=>h.2.2.2 b o hb ho ht hn⟩
structure fi (O:Wj->Nat->Prop)(B:Nat)(w:Wj)(g cap:Nat)(bs:List UInt8):Prop extends gK B w g cap bs where
 no:¬O w g
theorem fi.same {O:Wj->Nat->Prop}{B:Nat}{w w':Wj}{g cap:Nat}{bs:List UInt8}(K:fi O B w g cap bs)(h:w'.heap[g]?=w.heap[g]?)(ho:O w' g->O w g):fi O B w' g cap bs:=⟨K.togK.same h,fun h'=>K.no (ho h')⟩
structure rH (A:Nat->Prop)(w0:Wj)(B0 t l:Nat)(O:Wj->Nat->Prop)(total:KVs)(J:KVs->Wj->Prop):Prop where
 tree:∀b,A b->b<B0/\b≠t/\∃o:Obj,w0.heap[b]?=some o/\o.isCells=true
 box:t<B0
 own:∀X Y b,Y.heap[t]?=X.heap[t]?->O Y b->O X b
 ownB:∀pre X b,J pre X->O X b->B0<=b/\b<X.heap.size
 stable:∀pre X Y,J pre X->(∀b,b<B0->Y.heap[b]?=X.heap[b]?)->(∀b,O X b->Y.heap[b]?=X.heap[b]?)->X.heap.size<=Y.heap.size->Y.os=X.os->J pre Y
 size:∀pre X,J pre X->B0<=X.heap.size
 yields:∀pre k h hv X,pre++[(k,h)] <+:total->bf A w0 hv h->h≠[]->J pre X->YieldAt (wf none) 0 Yq.prog l #[.string ⟨k.toArray⟩,hv] X fun e X'=>e=.returned (.bool true)/\J (pre++[(k,h)]) X'/\fe O t X X'
def Ag (A:Nat->Prop)(w0 W:Wj):Prop:=∀b,A b->W.heap[b]?=w0.heap[b]?
noncomputable def us:Array Oper:=qG (jc (jc (dr (cF Tryz.f123))))
def yf (l:Nat):Wx:=.func (.yield l) #[] #[]
section
variable {A:Nat->Prop} {w0:Wj} {B0 t l:Nat} {O:Wj->Nat->Prop} {total:KVs} {J:KVs->Wj->Prop}
theorem Ag.keepR (C:rH A w0 B0 t l O total J){g:Nat}{W W':Wj}{pre:KVs}(a:J pre W)(h:Ag A w0 W)(k:gw O g t W W')(hg:B0<=g):Ag A w0 W':=fun b hb=>by
 obtain ⟨h1,h2,o,h3,h4⟩:=C.tree b hb;rw [h3];exact k.2.2.2 b o ((h b hb).trans h3) h4 h2 (by omega) (fun hO=>by have:=(C.ownB _ _ _ a hO).1;omega)
theorem mixed:Yq.prog.follows .mixedOrders=true:=by rfl
theorem CJ (C:rH A w0 B0 t l O total J){id n:Nat}{Q:Exit->Act->Wj->Prop}{a0:Act}{W:Wj}{gn g cap:Nat}{hv:Wx}{h:List Ver}{bs:List UInt8}{done:KVs}(hs:a0.tmps.size=44)(e0:a0.eval (.tmp 0)=.pointer (some ⟨gn,0,none⟩))(e1:a0.eval (.tmp 1)=mn g cap bs)(e2:a0.eval (.tmp 2)=yf l)
  (c0:W.cell? ⟨gn,0,none⟩=some (.bool (!h.isEmpty))) (c1:W.cell? ⟨gn,1,none⟩=some hv) (G:gn≠t) (hgB:gn<B0) (U:bf A w0 hv h) (r:done++(if h.isEmpty then [] else [(bs,h)]) <+:total) (K:fi O B0 W g cap bs) (T:J done W)
  (hend:∀a w,a.tmps.size=44->a.defers=a0.defers->(∀t,t<9->a.eval (.tmp t)=a0.eval (.tmp t))->a.eval (.tmp 23)=.bool false->J (done++(if h.isEmpty then [] else [(bs,h)])) w->fe O t W w->Q .normal a w):
  (Code.region id us true).wpIn (wf none) n Yq.prog Q a0 W:=by
 obtain ⟨W1,q⟩:∃W1:Wj,W1={W with drawn:=W.drawn+1}:=⟨_,rfl⟩;have m:W1.heap=W.heap:=by rw [q]
 have s:W1.os=W.os:=by rw [q]
 have d0:W1.cell? ⟨gn,0,none⟩=some (.bool (!h.isEmpty)):=(cB (a:=⟨gn,0,none⟩) (by rw [m])).trans c0;have d1:W1.cell? ⟨gn,1,none⟩=some hv:=(cB (a:=⟨gn,1,none⟩) (by rw [m])).trans c1;have ho1:∀b,O W1 b->O W b:=fun b=>C.own _ _ b (by rw [m])
 have K1:fi O B0 W1 g cap bs:=K.same (by rw [m]) (ho1 g);have J1:J done W1:=C.stable done W W1 T (fun b _=>by rw [m]) (fun b _=>by rw [m]) (by rw [m];exact lR _) s;have k1:fe O t W W1:=⟨by rw [m];exact lR _,s,fun b h=>.inl (ho1 b h),fun b o hb _ _ _=>by rw [m];exact hb⟩;have F:¬O W1 gn:=fun h=>by have:=(C.ownB _ _ _ J1 h).1;omega
 by_cases hf:h.isEmpty=true
 .rw [hf] at d0 hend;refine jg (ro:=none) (a0:=a0) (w0:=W) mixed 9 15
   (fun i=>match i with| 0=>.pointer (some ⟨gn,0,none⟩)| 1=>.pointer (some ⟨gn,0,none⟩)| 2=>.pointer (some ⟨gn,0,none⟩)| 3=>.bool false| 4=>.bool false| 14=>.bool false|_=>undef)
   (fun d w=>w=W1) (by omega) (by rfl) (by rfl) (fun listed a w i o D ho V k=>?_) (fun a w h1 h2 h3 h4 h5=>?_) (by rw [q])
  .obtain rfl:w=W1:=V.world;have hlt:i<15:=(cX D).1;have HY:=fun h=>oE (ops:=us) (a:=a) (j:=4) (x:=false) (show us[4]?=some _ from rfl) rfl (by rw [V.size,hs];omega) (V.new 4 (by omega) h)
   rcases i with - | - | - | - | - | - | - | - | - | - | - | - | - | - | - |i;all_goals first|omega|(have ho1:=ho;dsimp only [us,cF,Tryz.f123,jc,dr,qG,Option.getD] at ho1;simp only [gA,gS,gZ,oI,Nat.reduceAdd,zA] at ho1;subst ho1)
   .have q0:a.eval (.tmp 0)=.pointer (some ⟨gn,0,none⟩):=(V.old 0 (by omega)).trans e0;refine aq ho rfl (fun c h=>by cases h) (v:=.pointer (some ⟨gn,0,none⟩)) (w':=w) (by generalize a.eval=ρ at q0 ⊢;simp [go_sem,q0]) ⟨_,rfl,fun _=>rfl,V.world⟩
   .have q0:a.eval (.tmp 9)=.pointer (some ⟨gn,0,none⟩):=V.new 0 (by omega) (k ⟨0,.data⟩ (by simp) rfl);refine aq ho rfl (fun c h=>by cases h) (v:=.pointer (some ⟨gn,0,none⟩)) (w':=w) (by generalize a.eval=ρ at q0 ⊢;simp [go_sem,q0]) ⟨_,rfl,fun _=>rfl,V.world⟩
   .have q0:a.eval (.tmp 10)=.pointer (some ⟨gn,0,none⟩):=V.new 1 (by omega) (k ⟨1,.data⟩ (by simp) rfl);refine aq ho rfl (fun c h=>by cases h) (v:=.pointer (some ⟨gn,0,none⟩)) (w':=w) (by generalize a.eval=ρ at q0 ⊢;simp [go_sem,q0]) ⟨_,rfl,fun _=>rfl,V.world⟩
   .have q0:a.eval (.tmp 11)=.pointer (some ⟨gn,0,none⟩):=V.new 2 (by omega) (k ⟨2,.data⟩ (by simp) rfl);refine aq ho rfl (fun c h=>by cases h) (v:=.bool false) (w':=w) (by generalize a.eval=ρ at q0 ⊢;simp [go_sem,q0,d0]) ⟨_,rfl,fun _=>rfl,V.world⟩
   .have q0:a.eval (.tmp 12)=.bool false:=V.new 3 (by omega) (k ⟨3,.data⟩ (by simp) rfl);refine aq ho rfl (fun c h=>by cases h) (v:=.bool false) (w':=w) (by generalize a.eval=ρ at q0 ⊢;simp [go_sem,q0]) ⟨_,rfl,fun _=>rfl,V.world⟩
   iterate 9 exact Ai ho (by simp [Region.wanted,HY (k ⟨4,.guard⟩ (by simp) rfl)]) ⟨_,rfl,fun _=>rfl,V.world⟩
   .have q0:a.eval (.tmp 13)=.bool false:=V.new 4 (by omega) (k ⟨4,.data⟩ (by simp) rfl);have q1:a.eval (.tmp 22)=undef:=V.new 13 (by omega) (k ⟨13,.data⟩ (by simp) rfl);have q2:a.eval (.const (.bool false))=.bool false:=rfl;refine aq ho rfl (fun c h=>by cases h) (v:=.bool false) (w':=w) (by generalize a.eval=ρ at q0 q1 q2 ⊢;simp [go_sem,q0,q1,q2]) ⟨_,rfl,fun _=>rfl,V.world⟩
  .obtain ⟨d,-,rfl⟩:=h5;exact hend a _ (h1.trans hs) h2 h3 (h4 14 (by omega) (by decide)) (by simpa using J1) k1
 .have P:h.isEmpty=false:=by simpa using hf
  rw [P] at d0;have hw1:∀ (d:Nat->Bool) w,((d 12=false->w=W1)/\(d 12=true->J (done++[(bs,h)]) w/\fe O t W1 w))->fe O t W1 w:=fun d w hw=>by
   cases hd:d 12 with
   |false=>rw [hw.1 hd];exact fe.refl _ _ _
   |true=>exact (hw.2 hd).2
  have p:∀ (d:Nat->Bool) w,((d 12=false->w=W1)/\(d 12=true->J (done++[(bs,h)]) w/\fe O t W1 w))->∀ (b j:Nat) v,b≠t->¬O W1 b->W1.cell? ⟨b,j,none⟩=some v->w.cell? ⟨b,j,none⟩=some v:=fun d w hw b j v hb hn hv=>by
   obtain ⟨o,ho,I⟩:∃o:Obj,W1.heap[b]?=some o/\o.isCells=true:=by
    unfold World.cell? at hv;cases ho:W1.heap[b]? with
    |none=>simp [ho] at hv
    |some o=>exact ⟨o,rfl,by cases o<;>simp_all [Obj.isCells]⟩
   rw [cB (w:=W1) (a:=⟨b,j,none⟩) (((hw1 d w hw).2.2.2 b o ho I hb hn).trans ho.symm)];exact hv
  have hgt:g≠t:=by have:=K.base;have:=C.box;omega
  have hc0:∀ {d:Nat->Bool} w,((d 12=false->w=W1)/\(d 12=true->J (done++[(bs,h)]) w/\fe O t W1 w))->w.cell? ⟨gn,0,none⟩=some (.bool true):=fun w hw=>p _ w hw gn 0 _ G F d0
  have hc1:∀ {d:Nat->Bool} w,((d 12=false->w=W1)/\(d 12=true->J (done++[(bs,h)]) w/\fe O t W1 w))->w.cell? ⟨gn,1,none⟩=some hv:=fun w hw=>p _ w hw gn 1 _ G F d1
  have hcv:∀ {d:Nat->Bool} w,((d 12=false->w=W1)/\(d 12=true->J (done++[(bs,h)]) w/\fe O t W1 w))->(convert 48 9 (mn g cap bs)).run Yq.prog w=.ok (.string ⟨bs.toArray⟩) w:=fun w hw=>
   run_convert_bytes_back w 48 9 5 ⟨g,0,none⟩ cap bs (Yq.u underlying48) (Yq.u underlying5) (Yq.u underlying9) (fun j S=>by rw [Addr.add_lit,zA];exact p _ w hw g j _ hgt K1.no (K1.cells j S))
  refine jg (ro:=none) (a0:=a0) (w0:=W) mixed 9 15
   (fun i=>match i with| 0=>.pointer (some ⟨gn,0,none⟩)| 1=>.pointer (some ⟨gn,0,none⟩)| 2=>.pointer (some ⟨gn,0,none⟩)| 3=>.bool true| 4=>.bool true| 5=>yf l| 6=>mn g cap bs| 7=>.string ⟨bs.toArray⟩| 8=>.pointer (some ⟨gn,0,none⟩)| 9=>.pointer (some ⟨gn,0,none⟩)| 10=>.pointer (some ⟨gn,1,none⟩)| 11=>hv| 12=>.bool true| 13=>.bool false| 14=>.bool false|_=>undef)
   (fun d w=>(d 12=false->w=W1)/\(d 12=true->J (done++[(bs,h)]) w/\fe O t W1 w)) (by omega) (by rfl) (by rfl) (fun listed a w i o D ho V k=>?_) (fun a w h1 h2 h3 h4 h5=>?_) ⟨fun _=>by rw [q],fun h=>by cases h⟩
  .have hlt:i<15:=(cX D).1;have HY:=fun h=>oE (ops:=us) (a:=a) (j:=4) (x:=true) (show us[4]?=some _ from rfl) rfl (by rw [V.size,hs];omega) (V.new 4 (by omega) h)
   rcases i with - | - | - | - | - | - | - | - | - | - | - | - | - | - | - |i;all_goals first|omega|(have ho1:=ho;dsimp only [us,cF,Tryz.f123,jc,dr,qG,Option.getD] at ho1;simp only [gA,gS,gZ,oI,Nat.reduceAdd,zA] at ho1;subst ho1)
   .have q0:a.eval (.tmp 0)=.pointer (some ⟨gn,0,none⟩):=(V.old 0 (by omega)).trans e0;refine aq ho rfl (fun c h=>by cases h) (v:=.pointer (some ⟨gn,0,none⟩)) (w':=w) (by generalize a.eval=ρ at q0 ⊢;simp [go_sem,q0]) ⟨_,rfl,fun _=>rfl,⟨fun h=>V.world.1 (by simpa [dQ] using h),fun h=>V.world.2 (by simpa [dQ] using h)⟩⟩
   .have q0:a.eval (.tmp 9)=.pointer (some ⟨gn,0,none⟩):=V.new 0 (by omega) (k ⟨0,.data⟩ (by simp) rfl);refine aq ho rfl (fun c h=>by cases h) (v:=.pointer (some ⟨gn,0,none⟩)) (w':=w) (by generalize a.eval=ρ at q0 ⊢;simp [go_sem,q0]) ⟨_,rfl,fun _=>rfl,⟨fun h=>V.world.1 (by simpa [dQ] using h),fun h=>V.world.2 (by simpa [dQ] using h)⟩⟩
   .have q0:a.eval (.tmp 10)=.pointer (some ⟨gn,0,none⟩):=V.new 1 (by omega) (k ⟨1,.data⟩ (by simp) rfl);refine aq ho rfl (fun c h=>by cases h) (v:=.pointer (some ⟨gn,0,none⟩)) (w':=w) (by generalize a.eval=ρ at q0 ⊢;simp [go_sem,q0]) ⟨_,rfl,fun _=>rfl,⟨fun h=>V.world.1 (by simpa [dQ] using h),fun h=>V.world.2 (by simpa [dQ] using h)⟩⟩
   .have q0:a.eval (.tmp 11)=.pointer (some ⟨gn,0,none⟩):=V.new 2 (by omega) (k ⟨2,.data⟩ (by simp) rfl);refine aq ho rfl (fun c h=>by cases h) (v:=.bool true) (w':=w) (by generalize a.eval=ρ at q0 ⊢;simp [go_sem,q0,hc0 (d:=fun i=>listed.getD i false) w V.world]) ⟨_,rfl,fun _=>rfl,⟨fun h=>V.world.1 (by simpa [dQ] using h),fun h=>V.world.2 (by simpa [dQ] using h)⟩⟩
   .have q0:a.eval (.tmp 12)=.bool true:=V.new 3 (by omega) (k ⟨3,.data⟩ (by simp) rfl);refine aq ho rfl (fun c h=>by cases h) (v:=.bool true) (w':=w) (by generalize a.eval=ρ at q0 ⊢;simp [go_sem,q0]) ⟨_,rfl,fun _=>rfl,⟨fun h=>V.world.1 (by simpa [dQ] using h),fun h=>V.world.2 (by simpa [dQ] using h)⟩⟩
   .have q0:a.eval (.tmp 2)=yf l:=(V.old 2 (by omega)).trans e2;refine aq ho (by simp [Region.wanted,HY (k ⟨4,.guard⟩ (by simp) rfl)]) (fun c h=>by cases h) (v:=yf l) (w':=w) (by generalize a.eval=ρ at q0 ⊢;simp [go_sem,q0]) ⟨_,rfl,fun _=>rfl,⟨fun h=>V.world.1 (by simpa [dQ] using h),fun h=>V.world.2 (by simpa [dQ] using h)⟩⟩
   .have q0:a.eval (.tmp 1)=mn g cap bs:=(V.old 1 (by omega)).trans e1;refine aq ho (by simp [Region.wanted,HY (k ⟨4,.guard⟩ (by simp) rfl)]) (fun c h=>by cases h) (v:=mn g cap bs) (w':=w) (by generalize a.eval=ρ at q0 ⊢;simp [go_sem,q0]) ⟨_,rfl,fun _=>rfl,⟨fun h=>V.world.1 (by simpa [dQ] using h),fun h=>V.world.2 (by simpa [dQ] using h)⟩⟩
   .have q0:a.eval (.tmp 15)=mn g cap bs:=V.new 6 (by omega) (k ⟨6,.data⟩ (by simp) rfl);refine aq ho (by simp [Region.wanted,HY (k ⟨4,.guard⟩ (by simp) rfl)]) (fun c h=>by cases h) (v:=.string ⟨bs.toArray⟩) (w':=w) (by generalize a.eval=ρ at q0 ⊢;simp [go_sem,q0,hcv (d:=fun i=>listed.getD i false) w V.world]) ⟨_,rfl,fun _=>rfl,⟨fun h=>V.world.1 (by simpa [dQ] using h),fun h=>V.world.2 (by simpa [dQ] using h)⟩⟩
   .have q0:a.eval (.tmp 0)=.pointer (some ⟨gn,0,none⟩):=(V.old 0 (by omega)).trans e0;refine aq ho (by simp [Region.wanted,HY (k ⟨4,.guard⟩ (by simp) rfl)]) (fun c h=>by cases h) (v:=.pointer (some ⟨gn,0,none⟩)) (w':=w) (by generalize a.eval=ρ at q0 ⊢;simp [go_sem,q0]) ⟨_,rfl,fun _=>rfl,⟨fun h=>V.world.1 (by simpa [dQ] using h),fun h=>V.world.2 (by simpa [dQ] using h)⟩⟩
   .have q0:a.eval (.tmp 17)=.pointer (some ⟨gn,0,none⟩):=V.new 8 (by omega) (k ⟨8,.data⟩ (by simp) rfl);refine aq ho (by simp [Region.wanted,HY (k ⟨4,.guard⟩ (by simp) rfl)]) (fun c h=>by cases h) (v:=.pointer (some ⟨gn,0,none⟩)) (w':=w) (by generalize a.eval=ρ at q0 ⊢;simp [go_sem,q0]) ⟨_,rfl,fun _=>rfl,⟨fun h=>V.world.1 (by simpa [dQ] using h),fun h=>V.world.2 (by simpa [dQ] using h)⟩⟩
   .have q0:a.eval (.tmp 18)=.pointer (some ⟨gn,0,none⟩):=V.new 9 (by omega) (k ⟨9,.data⟩ (by simp) rfl);refine aq ho (by simp [Region.wanted,HY (k ⟨4,.guard⟩ (by simp) rfl)]) (fun c h=>by cases h) (v:=.pointer (some ⟨gn,1,none⟩)) (w':=w) (by generalize a.eval=ρ at q0 ⊢;simp [go_sem,q0]) ⟨_,rfl,fun _=>rfl,⟨fun h=>V.world.1 (by simpa [dQ] using h),fun h=>V.world.2 (by simpa [dQ] using h)⟩⟩
   .have q0:a.eval (.tmp 19)=.pointer (some ⟨gn,1,none⟩):=V.new 10 (by omega) (k ⟨10,.data⟩ (by simp) rfl);refine aq ho (by simp [Region.wanted,HY (k ⟨4,.guard⟩ (by simp) rfl)]) (fun c h=>by cases h) (v:=hv) (w':=w) (by generalize a.eval=ρ at q0 ⊢;simp [go_sem,q0,hc1 (d:=fun i=>listed.getD i false) w V.world]) ⟨_,rfl,fun _=>rfl,⟨fun h=>V.world.1 (by simpa [dQ] using h),fun h=>V.world.2 (by simpa [dQ] using h)⟩⟩
   .have y:a.eval (.tmp 14)=yf l:=V.new 5 (by omega) (k ⟨5,.data⟩ (by simp) rfl);have B:a.eval (.tmp 16)=.string ⟨bs.toArray⟩:=V.new 7 (by omega) (k ⟨7,.data⟩ (by simp) rfl);have E:a.eval (.tmp 20)=hv:=V.new 11 (by omega) (k ⟨11,.data⟩ (by simp) rfl);have z:listed.getD 12 false=false:=by
     have:=(cX D).2;rw [gD] at this ⊢;rw [eG (by rw [V.len];exact (cX D).1)] at this ⊢;exact this
    obtain rfl:w=W1:=V.world.1 z;obtain ⟨fn,tmps,assign,body,M,R⟩:=C.yields done bs h hv w (by rw [if_neg hf] at r;exact r) U (fun e=>hf (by rw [e];rfl)) J1;refine xJ (l:=l) (f:=fn) (tmps:=tmps) (assign:=assign) (body:=body) (n:=0) (w':=w) ho (by simp [Region.wanted,HY (k ⟨4,.guard⟩ (by simp) rfl)]) (fun c h=>by cases h) (by generalize a.eval=ρ at y B E ⊢;unfold yf at y;simp [go_sem,y,B,E,M]) (R.mono ?_);rintro e X ⟨rfl,H,N⟩;exact ⟨_,rfl,_,rfl,fun _=>rfl,fun h=>by simp [dQ] at h,fun _=>⟨H,N⟩⟩
   .have q0:a.eval (.tmp 21)=.bool true:=V.new 12 (by omega) (k ⟨12,.data⟩ (by simp) rfl);refine aq ho (by simp [Region.wanted,HY (k ⟨4,.guard⟩ (by simp) rfl)]) (fun c h=>by cases h) (v:=.bool false) (w':=w) (by generalize a.eval=ρ at q0 ⊢;simp [go_sem,q0]) ⟨_,rfl,fun _=>rfl,⟨fun h=>V.world.1 (by simpa [dQ] using h),fun h=>V.world.2 (by simpa [dQ] using h)⟩⟩
   .have q0:a.eval (.tmp 13)=.bool true:=V.new 4 (by omega) (k ⟨4,.data⟩ (by simp) rfl);have q1:a.eval (.tmp 22)=.bool false:=V.new 13 (by omega) (k ⟨13,.data⟩ (by simp) rfl);refine aq ho rfl (fun c h=>by cases h) (v:=.bool false) (w':=w) (by generalize a.eval=ρ at q0 q1 ⊢;simp [go_sem,q0,q1]) ⟨_,rfl,fun _=>rfl,⟨fun h=>V.world.1 (by simpa [dQ] using h),fun h=>V.world.2 (by simpa [dQ] using h)⟩⟩
  .obtain ⟨d,hd,hw⟩:=h5;obtain ⟨L,hk'⟩:=hw.2 (hd 12 (by decide));exact hend a _ (h1.trans hs) h2 h3 (h4 14 (by omega) (by decide)) (by rw [if_neg hf];exact L) (k1.trans hk')
end
end
