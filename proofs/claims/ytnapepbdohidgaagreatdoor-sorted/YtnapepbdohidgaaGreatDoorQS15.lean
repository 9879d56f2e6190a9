/- A part. -/
import Derived.Test.YtnapepbdohidgaaGreatDoorQS14
set_option maxHeartbeats 4000000
set_option maxRecDepth 100000
open Go renaming World->Wz,Value->Wq,Addr->Ww
namespace Go.Proofs.Qw
section
open Go.RowKit
theorem m8 {α:Type}(m:Nat)(g:α->List Wq)(hg:∀a,(g a).length=m)(l:List α)(i:Nat):(l.flatMap g).take (i * m)=(l.take i).flatMap g:=by
 induction l generalizing i with
 |nil=>simp
 |cons a l ih=>
  cases i with
  |zero=>simp
  |succ i=>
   rw [List.flatMap_cons,List.take_succ_cons,List.flatMap_cons,List.take_append,hg];have e:(i+1) * m-m=i * m:=by rw [Nat.add_mul,Nat.one_mul];omega
   rw [e,ih,tO (by rw [hg,Nat.add_mul,Nat.one_mul];omega)]
theorem m9 {α:Type}(m:Nat)(g:α->List Wq)(hg:∀a,(g a).length=m)(l:List α)(i:Nat):(l.flatMap g).drop (i * m)=(l.drop i).flatMap g:=by
 induction l generalizing i with
 |nil=>simp
 |cons a l ih=>
  cases i with
  |zero=>simp
  |succ i=>
   rw [List.flatMap_cons,List.drop_succ_cons,List.drop_append,hg];have e:(i+1) * m-m=i * m:=by rw [Nat.add_mul,Nat.one_mul];omega
   rw [e,ih,List.drop_eq_nil_of_le (by rw [hg,Nat.add_mul,Nat.one_mul];omega),List.nil_append]
theorem rl (ks:List (UInt8×Option Ww))(r:Nat)(c:UInt8)(q:Option Ww):
  (au ks).take (r * 2)++[.int .u8 (c.toNat:Int),.pointer q]++(au ks).drop (r * 2)=au (ks.take r++(c,q)::ks.drop r):=by
 unfold au;rw [m8 2 _ (fun _=>rfl),m9 2 _ (fun _=>rfl)];simp
theorem rm (ks:List (UInt8×Option Ww))(r:Nat):(au ks).take (r * 2)++(au ks).drop ((r+1) * 2)=au (ks.take r++ks.drop (r+1)):=by
 unfold au;rw [m8 2 _ (fun _=>rfl),m9 2 _ (fun _=>rfl)];simp
theorem rn (h:List Ver)(r:Nat):(aD h).take (r * 3)++(aD h).drop ((r+1) * 3)=aD (h.take r++h.drop (r+1)):=by
 unfold aD;rw [m8 3 _ (fun _=>rfl),m9 3 _ (fun _=>rfl)];simp
theorem rp (ks:List (UInt8×Option Ww))(r:Nat)(c:UInt8)(q:Option Ww)(hr:r<ks.length)(hc:ks[r].1=c):(au ks).set (r * 2+1) (.pointer q)=au (ks.take r++(c,q)::ks.drop (r+1)):=by
 have e1:ks=ks.take r++ks[r]::ks.drop (r+1):=by rw [List.getElem_cons_drop,List.take_append_drop]
 have hl:(au (ks.take r)).length=r * 2:=by rw [dX,tL,Nat.min_eq_left (by omega)]
 have e2:au ks=au (ks.take r)++(.int .u8 (c.toNat:Int) :: .pointer ks[r].2::au (ks.drop (r+1))):=by
  have e4:∀ (A B:List (UInt8×Option Ww)) (x:UInt8×Option Ww),au (A++x::B)=au A++(.int .u8 (x.1.toNat:Int) :: .pointer x.2::au B):=fun A B x=>by simp [au]
  conv=>lhs;rw [e1]
  rw [e4,hc]
 have e3:au (ks.take r++(c,q)::ks.drop (r+1))=au (ks.take r)++(.int .u8 (c.toNat:Int) :: .pointer q::au (ks.drop (r+1))):=by simp [au]
 rw [e2,e3,List.set_append_right _ _ (by omega),hl];have:r * 2+1-r * 2=1:=by omega
 rw [this];rfl
def aF (ks:List (UInt8×Option Ww))(r:Nat)(c:UInt8)(q:Option Ww)(d:Nat):List (UInt8×Option Ww):=ks.take r++(c,q)::ks.drop (r+d)
theorem gl {ks:List (UInt8×Option Ww)}{c:UInt8}{r:Nat}(hs:ks.Pairwise (fun a b=>a.1<b.1))(hp:Place ks c r)(q:Option Ww)(d:Nat)(hd:d=if me ks c r then 1 else 0):(aF ks r c q d).Pairwise (fun a b=>a.1<b.1):=by
 unfold aF;rw [List.pairwise_append];have hlo:∀x∈ks.take r,x.1<c:=by
  intro x hx;obtain ⟨j,hj,e⟩:=gM hx;rw [tL] at hj;rw [List.getElem_take] at e;rw [<-e];exact hp.lo j (by omega) (by omega)
 have hhi:∀x∈ks.drop (r+d),c<x.1:=by
  intro x hx;obtain ⟨j,hj,e⟩:=gM hx;rw [lD] at hj;rw [List.getElem_drop] at e;have h1:=hp.hi (r+d+j) (by omega) (by omega);rw [e] at h1;by_cases hne:c=x.1
  .exfalso;cases hat:me ks c r with
   |true=>
    rw [hat] at hd;obtain ⟨hr,hrc⟩:=Place.mem hat;have h2:=i7 hs r (r+d+j) (by simp at hd;omega) (by omega);rw [hrc,e,hne] at h2;omega
   |false=>
    have:=hp.nomem hs hat x.2;rw [hne] at this;exact this (List.mem_of_mem_drop hx)
  .have:=UInt8.le_iff_toNat_le.1 h1;have hn:c.toNat≠x.1.toNat:=fun h=>hne (UInt8.toNat_inj.1 h)
   exact UInt8.lt_iff_toNat_lt.2 (by omega)
 refine ⟨hs.sublist (List.take_sublist _ _),?_,?_⟩
 .rw [List.pairwise_cons];exact ⟨fun x hx=>hhi x hx,hs.sublist (List.drop_sublist _ _)⟩
 .intro x hx y hy;rcases List.mem_cons.1 hy with rfl|hy
  .exact hlo x hx
  .have h1:=UInt8.lt_iff_toNat_lt.1 (hlo x hx);have h2:=UInt8.lt_iff_toNat_lt.1 (hhi y hy);exact UInt8.lt_iff_toNat_lt.2 (by omega)
theorem tW {ks:List (UInt8×Option Ww)}(hs:ks.Pairwise (fun a b=>a.1<b.1)){c:UInt8}{p q:Option Ww}(hp:(c,p)∈ks)(hq:(c,q)∈ks):p=q:=by
 obtain ⟨i,hi,ei⟩:=gM hp;obtain ⟨j,hj,ej⟩:=gM hq;by_cases hij:i=j
 .subst hij;rw [ei] at ej;cases ej;rfl
 .rcases Nat.lt_or_gt_of_ne hij with h|h
  .have:=i7 hs i j h hj;rw [ei,ej] at this;simp at this
  .have:=i7 hs j i h hi;rw [ei,ej] at this;simp at this
theorem ow {ks:List (UInt8×Option Ww)}{c:UInt8}{r:Nat}(hs:ks.Pairwise (fun a b=>a.1<b.1))(hp:Place ks c r)(q:Option Ww)(d:Nat)(hd:d=if me ks c r then 1 else 0)(c':UInt8)(x:Option Ww)
  (hm:(c',x)∈aF ks r c q d):(c'=c/\x=q)\/(c'≠c/\(c',x)∈ks):=by
 by_cases hc:c'=c
 .subst hc;exact Or.inl ⟨rfl,tW (gl hs hp q d hd) hm (by unfold aF;simp)⟩
 .refine Or.inr ⟨hc,?_⟩;unfold aF at hm;rcases List.mem_append.1 hm with h|h
  .exact List.mem_of_mem_take h
  .rcases List.mem_cons.1 h with h|h
   .cases h;exact absurd rfl hc
   .exact List.mem_of_mem_drop h
theorem rq {ks:List (UInt8×Option Ww)}{c:UInt8}{r:Nat}(_hs:ks.Pairwise (fun a b=>a.1<b.1))(q:Option Ww)(d:Nat)(hd:d=if me ks c r then 1 else 0)(c':UInt8)
  (hm:∀x,(c',x) ∉ aF ks r c q d):c'≠c/\∀x,(c',x) ∉ ks:=by
 have hc:c'≠c:=fun e=>hm q (by subst e;unfold aF;simp)
 refine ⟨hc,fun x hx=>hm x ?_⟩;unfold aF;cases hat:me ks c r with
 |false=>
  rw [hat] at hd;have:d=0:=by simpa using hd
  subst this;rw [Nat.add_zero,List.mem_append,List.mem_cons];rw [<-List.take_append_drop r ks,List.mem_append] at hx;exact hx.imp id Or.inr
 |true=>
  rw [hat] at hd;have:d=1:=by simpa using hd
  subst this;obtain ⟨hr,hrc⟩:=Place.mem hat;have e1:ks=ks.take r++ks[r]::ks.drop (r+1):=by rw [List.getElem_cons_drop,List.take_append_drop]
  rw [e1,List.mem_append,List.mem_cons] at hx;rw [List.mem_append,List.mem_cons];rcases hx with h|h|h
  .exact Or.inl h
  .rw [<-h] at hrc;exact absurd hrc hc
  .exact Or.inr (Or.inr h)
def upd (f:List UInt8->List Ver)(key:List UInt8)(h:List Ver):List UInt8->List Ver:=fun k=>if k=key then h else f k
theorem vh (key:ByteArray)(h:0<key.size):key.data.toList=key[0]::(key.extract 1 key.size).data.toList:=by
 have e:(key.extract 1 key.size).data.toList=key.data.toList.drop 1:=by
  simp;exact tO (by simp)
 rw [e];have hl:0<key.data.toList.length:=by simpa using h
 exact (List.getElem_cons_drop hl).symm
theorem cX {R:Nat->Prop}{w:Wz}{base:Nat}{v:Wq}{ks:List (UInt8×Option Ww)}{n:Nat}(hn:n=ks.length)(h:w.ownsRow base 190 2 v n (au ks))(hR:∀k,v.ownBlock=some k->R k):fL R w v ks:=by
 subst hn;rcases h.2 with ⟨rfl,h0⟩|⟨g,cap,cur,rfl,hbg,hg,hnc,hcm,hcs,htake⟩
 .have:ks=[]:=List.length_eq_zero_iff.1 h0;subst this;exact ⟨none,0,rfl,fun _=>rfl,fun h=>absurd rfl h⟩
 .refine ⟨_,cap,rfl,(fun h=>by cases h),fun _=>⟨g,rfl,hR g rfl,(eS hg).1,fun j hj=>?_⟩⟩;rw [dX] at hj;exact h.cellAt j hj
theorem kX {R:Nat->Prop}{w:Wz}{base:Nat}{v:Wq}{h:List Ver}{n:Nat}(hn:n=h.length)(ho:w.ownsRow base 81 3 v n (aD h))(hR:∀k,v.ownBlock=some k->R k):aU R w v h:=by
 subst hn;rcases ho.2 with ⟨rfl,h0⟩|⟨g,cap,cur,rfl,hbg,hg,hnc,hcm,hcs,htake⟩
 .have:h=[]:=List.length_eq_zero_iff.1 h0;subst this;exact ⟨none,0,rfl,fun _=>rfl,fun h=>absurd rfl h⟩
 .refine ⟨_,cap,rfl,(fun h=>by cases h),fun _=>⟨g,rfl,hR g rfl,(eS hg).1,fun j hj=>?_⟩⟩;rw [fg] at hj;exact ho.cellAt j hj
theorem bO {w:Wz}{base g:Nat}{x y z:Wq}(h:w.ownsRow base 159 3 (.slice (some ⟨g,0,none⟩) 1 1) 1 [x,y,z]):
  (w.cell? ⟨g,0,none⟩=some x/\w.cell? ⟨g,1,none⟩=some y/\w.cell? ⟨g,2,none⟩=some z)/\∀j,w.frozen? ⟨g,j,none⟩=false:=
 ⟨⟨h.cellAt 0 (by omega),h.cellAt 1 (by omega),h.cellAt 2 (by omega)⟩,fun j=>h.frozenAt j⟩
def Grow (A:Nat->Prop)(w:Wz):Nat->Prop:=fun b=>(A b/\b<w.heap.size)\/w.heap.size<=b
def DS (n:Nat):Prop:=∀ (A:Nat->Prop)(p:Option Ww)(f:List UInt8->List Ver)(key:ByteArray)(hv:Wq)(h:List Ver)(w:Wz),ai A n w p f->key.size<n->key.size<=1000->aU A w hv h->h≠[] ->
 Calls Yq.prog 94 #[.pointer p,.string key,hv] w fun e w'=>∃g,e=.returned (.pointer (some ⟨g,0,none⟩))/\Below w.heap.size w w'/\ai (Grow A w) n w' (some ⟨g,0,none⟩) (upd f key.data.toList h)
theorem iz {A:Nat->Prop}{w w':Wz}(hb:Below w.heap.size w w'):∀b,A b->b<w.heap.size->Grow A w b/\w'.heap[b]?=w.heap[b]?:=
 fun b ha hlt=>⟨Or.inl ⟨ha,hlt⟩,hb.block b hlt⟩
theorem zr (f:List UInt8->List Ver)(h:List Ver):upd f [] h []=h:=by simp [upd]
theorem kY (f:List UInt8->List Ver)(h:List Ver)(c:UInt8)(k:List UInt8):upd f [] h (c::k)=f (c::k):=by simp [upd]
theorem g9 (f:List UInt8->List Ver)(h:List Ver)(c:UInt8)(k:List UInt8):upd f (c::k) h []=f []:=by simp [upd]
theorem upd_same (f:List UInt8->List Ver)(h:List Ver)(c:UInt8)(k:List UInt8):(fun x=>upd f (c::k) h (c::x))=upd (fun x=>f (c::x)) k h:=by funext x;simp [upd]
theorem na (f:List UInt8->List Ver)(h:List Ver)(c d:UInt8)(k:List UInt8)(hne:d≠c):(fun x=>upd f (c::k) h (d::x))=fun x=>f (d::x):=by funext x;simp [upd,hne]
theorem ox {n:Nat}{A:Nat->Prop}{w w1:Wz}{f:List UInt8->List Ver}{g:Nat}{hv0 kv:Wq}{ks:List (UInt8×Option Ww)}(M:Made A n w w1 f g hv0 kv ks)(b:Bool)(hv:Wq)(h:List Ver)(hh:aU A w hv h)(hb:b=!h.isEmpty)(w2:Wz)
  (hw:w2=(w1.setCell ⟨g,0,none⟩ (.bool b)).setCell ⟨g,1,none⟩ hv):
  Below w.heap.size w w2/\ai (Grow A w) (n+1) w2 (some ⟨g,0,none⟩) (upd f [] h):=by
 subst hw;have hg:=M.node.lt g rfl;have s1:=M.node.stored 0 (.bool b);have s2:=s1.1.stored 1 hv;simp only [List.set_cons_zero,List.set_cons_succ] at s2;have hbl:Below w.heap.size w ((w1.setCell ⟨g,0,none⟩ (.bool b)).setCell ⟨g,1,none⟩ hv):=(M.below.setCell hg.1 _).setCell hg.1 _;have hgr:=bU s1.2 s2.2;obtain ⟨⟨c0,c1,c2⟩,fz⟩:=bO s2.1;have hk:=M.kids.kept hgr (Or.inr M.apart);refine ⟨hbl,Or.inr ⟨g,hv,kv,ks,rfl,Or.inr hg.1,?_,c1,c2,?_,?_,M.sorted,?_,?_,M.noNil⟩⟩
 .rw [zr,<-hb];exact c0
 .rw [zr];exact bH.keep hh (iz hbl)
 .exact cX rfl hk (fun k e=>Or.inr (M.kids.lt k e).1)
 .intro c q hq;have:(fun k=>upd f [] h (c::k))=fun k=>f (c::k):=by funext k;exact kY f h c k
  rw [this];exact ai.keep (iz hbl) n q _ (M.child c q hq)
 .intro c hc k;rw [kY];exact M.noKid c hc k
theorem tX (n:Nat)(A:Nat->Prop)(p:Option Ww)(f:List UInt8->List Ver)(key:ByteArray)(hv:Wq)(h:List Ver)(w:Wz)(hN:ai A (n+1) w p f)(hk:key.size=0)(hh:aU A w hv h)(hne:h≠[]):
  Calls Yq.prog 94 #[.pointer p,.string key,hv] w fun e w'=>∃g,e=.returned (.pointer (some ⟨g,0,none⟩))/\Below w.heap.size w w'/\ai (Grow A w) (n+1) w' (some ⟨g,0,none⟩) (upd f key.data.toList h):=by
 have hfr:=jD A n p f w hN;have hkl:key.data.toList=[]:=List.eq_nil_of_length_eq_zero (by simpa using hk);have hke:key.toList.isEmpty=true:=by rw [ByteArray.toList_eq,hkl];rfl
 have hh2:=hh;obtain ⟨ha,hc,rfl,-⟩:=hh2;have HKL:Hid (key.data.toList=[]/\aU A w (.slice ha h.length hc) h):=⟨hkl,hh⟩;clear hkl hk hN hh;go_enter (Yq.nq Tryz.func94),Tryz.ntmps94;go_wp2_with fail
 refine hfr.mono ?_;rintro e w1 ⟨g,hv0,kv,ks,rfl,M⟩;obtain ⟨⟨c0,c1,c2⟩,fz⟩:=bO M.node;have f0:=fz 0;have f1:=fz 1;clear hfr;go_wp2;go_ret;have hd:=ox M true _ h HKL.out.2 (by simp [hne]) _ rfl;rw [HKL.out.1];exact ⟨g,rfl,hd⟩
structure Rdy (A:Nat->Prop)(n:Nat)(w w3:Wz)(f:List UInt8->List Ver)(g:Nat)(hv0:Wq)(k cap:Nat)(ks:List (UInt8×Option Ww))(r:Nat)(c:UInt8)(q:Option Ww)(d:Nat):Prop where
 below:Below w.heap.size w w3
 node:w3.ownsRow w.heap.size 159 3 (.slice (some ⟨g,0,none⟩) 1 1) 1 [.bool (!(f []).isEmpty),hv0,.slice (some ⟨k,0,none⟩) (aF ks r c q d).length cap]
 kids:w3.ownsRow w.heap.size 190 2 (.slice (some ⟨k,0,none⟩) (aF ks r c q d).length cap) (aF ks r c q d).length (au (aF ks r c q d))
 apart:k≠g
 hist:aU A w hv0 (f [])
 sorted:ks.Pairwise (fun a b=>a.1<b.1)
 place:Place ks c r
 isd:d=if me ks c r then 1 else 0
 child:∀c q,(c,q)∈ks->ai A n w q (fun k=>f (c::k))
 noKid:∀c,(∀q,(c,q) ∉ ks)->∀k,f (c::k)=[]
 noNil:∀c q,(c,q)∈ks->q≠none
 this:ai A n w q (fun k=>f (c::k))
theorem fN {ks:List (UInt8×Option Ww)}{r:Nat}{c:UInt8}{q:Option Ww}{d:Nat}(hr:r<=ks.length):r<(aF ks r c q d).length:=by
 unfold aF;rw [lP,tL,lC];omega
theorem kj {ks:List (UInt8×Option Ww)}{r:Nat}{c:UInt8}{q:Option Ww}{d:Nat}(hr:r<=ks.length):(aF ks r c q d)[r]'(fN hr)=(c,q):=by
 have e:(aF ks r c q d)[r]?=some (c,q):=by
  have e:r-(ks.take r).length=0:=by rw [tL];omega
  unfold aF;rw [aR (by rw [tL];omega),e];rfl
 exact (sL e).2
theorem wT {ks:List (UInt8×Option Ww)}{r:Nat}{c:UInt8}{q q':Option Ww}{d:Nat}(hr:r<=ks.length):(aF ks r c q d).take r++(c,q')::(aF ks r c q d).drop (r+1)=aF ks r c q' d:=by
 have hl:(ks.take r).length=r:=by rw [tL];omega
 unfold aF;rw [List.take_left' hl,show (ks.take r++(c,q)::ks.drop (r+d))=(ks.take r++[(c,q)])++ks.drop (r+d) by simp,List.drop_left' (by simp [hl])]
theorem gm {ks:List (UInt8×Option Ww)}{r:Nat}{c:UInt8}{q q':Option Ww}{d:Nat}:(aF ks r c q d).length=(aF ks r c q' d).length:=by
 unfold aF;simp
theorem Rdy.cells {A:Nat->Prop}{n:Nat}{w w3:Wz}{f:List UInt8->List Ver}{g:Nat}{hv0:Wq}{k cap:Nat}{ks:List (UInt8×Option Ww)}{r:Nat}{c:UInt8}{q:Option Ww}{d:Nat}(R:Rdy A n w w3 f g hv0 k cap ks r c q d):
  w3.cell? ⟨g,2,none⟩=some (.slice (some ⟨k,0,none⟩) (aF ks r c q d).length cap)/\w3.cell? ⟨k,r * 2+1,none⟩=some (.pointer q)/\w3.frozen? ⟨k,r * 2+1,none⟩=false/\(aF ks r c q d).length<=256:=by
 obtain ⟨⟨c0,c1,c2⟩,fz⟩:=bO R.node;have hk:fL (fun _=>True) w3 _ (aF ks r c q d):=cX rfl R.kids (fun _ _=>trivial);have hlt:=fN (c:=c) (q:=q) (d:=d) R.place.le;have hne:aF ks r c q d≠[]:=by intro e;rw [e] at hlt;simp at hlt
 obtain ⟨g',cap',he,-,-,hc,-⟩:=hk.cells hne;cases he;refine ⟨c2,?_,R.kids.frozenAt _,j8 _ (gl R.sorted R.place q d R.isd)⟩;have:=(hc r hlt).2;rw [kj R.place.le] at this;exact this
theorem Rdy.done {A:Nat->Prop}{n:Nat}{w w3:Wz}{f:List UInt8->List Ver}{g:Nat}{hv0:Wq}{k cap:Nat}{ks:List (UInt8×Option Ww)}{r:Nat}{c:UInt8}{q:Option Ww}{d:Nat}(R:Rdy A n w w3 f g hv0 k cap ks r c q d)
  (w4:Wz) (hb:Below w3.heap.size w3 w4) (q':Option Ww) (F:List UInt8->List Ver) (hF0:F []=f []) (hFo:∀c',c'≠c->(fun x=>F (c'::x))=fun x=>f (c'::x))
  (hq:ai (Grow (fun b=>A b/\b<w.heap.size) w3) n w4 q' (fun x=>F (c::x))) (wf:Wz) (hwf:wf=w4.setCell ⟨k,r * 2+1,none⟩ (.pointer q')):
  Below w.heap.size w wf/\(q'≠none->ai (Grow A w) (n+1) wf (some ⟨g,0,none⟩) F) /\
   wf.ownsRow w.heap.size 159 3 (.slice (some ⟨g,0,none⟩) 1 1) 1 [.bool (!(f []).isEmpty),hv0,.slice (some ⟨k,0,none⟩) (aF ks r c q' d).length cap] /\
   wf.ownsRow w.heap.size 190 2 (.slice (some ⟨k,0,none⟩) (aF ks r c q' d).length cap) (aF ks r c q' d).length (au (aF ks r c q' d)):=by
 subst hwf;have hgk:=R.kids.lt k rfl;have hgg:=R.node.lt g rfl;have hb34:w3.grownBy w4 none:=⟨hb.os,hb.tape,hb.output,hb.size,fun i hi _=>hb.block i hi⟩;have n4:=R.node.kept hb34 (by simp [Value.ownBlock]);have k4:=R.kids.kept hb34 (by simp [Value.ownBlock]);have k5:=k4.stored (r * 2+1) (.pointer q');have n5:=n4.kept k5.2 (Or.inr (by simp [Value.ownBlock];exact fun e=>R.apart e.symm));rw [rp _ r c q' (fN R.place.le) (by rw [kj R.place.le]),wT R.place.le,gm (q':=q')] at k5;rw [gm (q':=q')] at n5;have hbl:Below w.heap.size w (w4.setCell ⟨k,r * 2+1,none⟩ (.pointer q')):=(R.below.trans (hb.mono R.below.size)).setCell hgk.1 _;obtain ⟨⟨c0,c1,c2⟩,-⟩:=bO n5;refine ⟨hbl,fun hq0=>Or.inr ⟨g,hv0,_,aF ks r c q' d,rfl,Or.inr hgg.1,by rw [hF0];exact c0,c1,c2,by rw [hF0];exact bH.keep R.hist (iz hbl),?_,gl R.sorted R.place q' d R.isd,?_,?_,?_⟩,n5,k5.1⟩
 .exact cX rfl k5.1 (fun j e=>by simp [Value.ownBlock] at e;subst e;exact Or.inr hgk.1)
 .intro c' x hx;rcases ow R.sorted R.place q' d R.isd c' x hx with ⟨rfl,rfl⟩|⟨hne,hm⟩
  .refine ai.keep (fun b hb1 hb2=>?_) n x _ hq;rcases hb1 with ⟨⟨hA,hlt⟩,_⟩|hge
   .exact ⟨Or.inl ⟨hA,hlt⟩,bS _ _ _ _ (by show b≠k;omega)⟩
   .have:=R.below.size;exact ⟨Or.inr (by omega),bS _ _ _ _ (by show b≠k;omega)⟩
  .rw [hFo c' hne];exact ai.keep (iz hbl) n x _ (R.child c' x hm)
 .intro c' hc' y;obtain ⟨hne,hno⟩:=rq R.sorted q' d R.isd c' hc';have:F (c'::y)=f (c'::y):=congrFun (hFo c' hne) y;rw [this];exact R.noKid c' hno y
 .intro c' x hx;rcases ow R.sorted R.place q' d R.isd c' x hx with ⟨rfl,rfl⟩|⟨hne,hm⟩
  .exact hq0
  .exact R.noNil c' x hm
theorem Made.rdy {A:Nat->Prop}{n:Nat}{w w1 w2:Wz}{f:List UInt8->List Ver}{g:Nat}{hv0 kv:Wq}{ks:List (UInt8×Option Ww)}(M:Made A n w w1 f g hv0 kv ks)(hb:Below w1.heap.size w1 w2){r:Nat}{c:UInt8}(hp:Place ks c r)(hat:me ks c r=true):
  ∃k cap q,kv=.slice (some ⟨k,0,none⟩) (aF ks r c q 1).length cap/\Rdy A n w w2 f g hv0 k cap ks r c q 1:=by
 obtain ⟨hr,hrc⟩:=Place.mem hat;have e1:aF ks r c ks[r].2 1=ks:=by
  unfold aF;have:(c,ks[r].2)=ks[r]:=by rw [<-hrc]
  rw [this,List.getElem_cons_drop,List.take_append_drop]
 have hb12:w1.grownBy w2 none:=⟨hb.os,hb.tape,hb.output,hb.size,fun i hi _=>hb.block i hi⟩;have n2:=M.node.kept hb12 (by simp [Value.ownBlock]);have hap:=M.apart;have k2:=M.kids;rcases k2.2 with ⟨_,h0⟩|⟨k,cap,cur,rfl,_⟩
 .omega
 have k2:=M.kids.kept hb12 (by simp [Value.ownBlock]);refine ⟨k,cap,ks[r].2,by rw [e1],M.below.trans (hb.mono M.below.size),?_,?_,fun e=>hap (by simp [Value.ownBlock,e]),M.hist,M.sorted,hp,by simp [hat],M.child,M.noKid,M.noNil,M.child c _ (by rw [<-hrc];exact List.getElem_mem hr)⟩
 .rw [e1];exact n2
 .rw [e1];exact k2
theorem rr {w:Wz}{base:Nat}{e:TypeId}{size:Nat}{v:Wq}{n:Nat}{xs:List Wq}(h:w.ownsRow base e size v n xs)(hn:0<n):∃g cap,v=.slice (some ⟨g,0,none⟩) n cap/\base<=g/\g<w.heap.size/\n<=cap:=by
 rcases h.2 with ⟨rfl,rfl⟩|⟨g,cap,cur,rfl,hb,hg,hc,_⟩
 .omega
 .exact ⟨g,cap,rfl,hb,(eS hg).1,hc⟩
theorem dA {w w':Wz}(hb:Below w.heap.size w w')(r:Option Nat):w.grownBy w' r:=⟨hb.os,hb.tape,hb.output,hb.size,fun i hi _=>hb.block i hi⟩
theorem Made.rdyNew {A:Nat->Prop}{n:Nat}{w w1 w2 wq w3:Wz}{f:List UInt8->List Ver}{g:Nat}{hv0 kv:Wq}{ks:List (UInt8×Option Ww)}(M:Made A n w w1 f g hv0 kv ks)(hb:Below w1.heap.size w1 w2){r:Nat}{c:UInt8}(hp:Place ks c r)(hat:me ks c r=false)
  (hbq:Below w2.heap.size w2 wq) (k cap:Nat) (ho:w3.ownsRow w.heap.size 190 2 (.slice (some ⟨k,0,none⟩) (ks.length+1) cap) (ks.length+1) (au (aF ks r c none 0))) (hg3:wq.grownBy w3 kv.ownBlock)
  (hblk:(Value.slice (some ⟨k,0,none⟩) (ks.length+1) cap).ownBlock=kv.ownBlock\/∀j,(Value.slice (some ⟨k,0,none⟩) (ks.length+1) cap).ownBlock=some j->wq.heap.size<=j):
  (aF ks r c none 0).length=ks.length+1/\Rdy A n w (w3.setCell ⟨g,2,none⟩ (.slice (some ⟨k,0,none⟩) (ks.length+1) cap)) f g hv0 k cap ks r c none 0:=by
 have hl:(aF ks r c none 0).length=ks.length+1:=by
  unfold aF;rw [lP,tL,lC,lD];have:=hp.le;omega
 have hgg:=M.node.lt g rfl;have hkg:k≠g:=by
  intro e;rcases hblk with h|h
  .exact M.apart (by rw [<-h,e];rfl)
  .have:=h k rfl;have:=hb.size;have:=hbq.size;omega
 have b2:Below w.heap.size w w2:=M.below.trans (hb.mono M.below.size);have bq:Below w.heap.size w wq:=b2.trans (hbq.mono b2.size);have n2:=M.node.kept (dA hb none) (by simp [Value.ownBlock]);have nq:=n2.kept (dA hbq none) (by simp [Value.ownBlock]);have n3:=nq.kept hg3 (Or.inr (by simp only [Value.ownBlock];exact fun e=>M.apart e.symm));have n4:=n3.stored 2 (.slice (some ⟨k,0,none⟩) (ks.length+1) cap);have k4:=ho.kept n4.2 (Or.inr (by simp [Value.ownBlock];exact hkg));have b3:Below w.heap.size w w3:=bq.grown hg3 bq.size (fun j e=>(M.kids.lt j e).1);refine ⟨hl,b3.setCell hgg.1 _,by rw [hl];exact n4.1,by rw [hl];exact k4,hkg,M.hist,M.sorted,hp,by simp [hat],M.child,M.noKid,M.noNil,ai.nil (M.noKid c (hp.nomem M.sorted hat))⟩
theorem fi {w w':Wz}{row:Option Nat}(hg:w.grownBy w' row)(a:Ww)(hlt:a.block<w.heap.size)(hne:some a.block≠row):w'.frozen? a=w.frozen? a:=
 fB (w:=w) (hg.block a.block hlt hne)
end
