/- A part. -/
import Derived.Test.YtnapepbdohidgaaGreatDoorQS09
set_option maxHeartbeats 4000000
set_option maxRecDepth 100000
open Go renaming World->Wz,Value->Wq,Program->Wx,Frame->Wv
namespace Go.Proofs.Qw
section
open Go
open Go.Conc Go.ConcX Go.ConcX.Gen Go.RowKit
section
variable [Two Tryz.prog] [Two Yq.prog] {Gf Fs Fr:FuncId->Bool} {Pre:Lst->List Wq->Wz->Prop}
theorem nQ {f0:FuncId}{R:(Nat->Question->Nat)->Nat->Ending->Wz->Prop}(E:pq Gf Fs Fr)(hStop:CM Pre R)(hce:∀l L V u,Ce V u->Pre l L u->Pre l L V){x y:Wq}{fr fr':Wv}{cs cs':List Wv}{V W:Wz}{ρ:Ren}{U:Outer}
  (hRel:Rel Tryz.prog U Gf [] ρ {frame:=fr,callers:=cs,status:=.running,dying:=none} {frame:=fr',callers:=cs',status:=.running,dying:=none} V W)
  (hD:Dem Yq.prog (fun g _=>NB [trap Yq.prog] g) (Ends Yq.prog f0 R) {frame:=Frame.enter Yq.prog 69 #[x,y] .normal,callers:=fr::cs,status:=.running,dying:=none} V):
  ∃l pn L,x=lV l/\y=.int .i64 pn/\Pre l L V:=by
 have hSM:(ρ.F fE||ρ.F kJ)=false:=by rw [hRel.calm,hRel.quiet.1];rfl
 have hlen:1<=cs.length:=by
  have:=hRel.go.callers.len1;simpa using this
 have hcal:=hRel.go.callers;rw [E.alt] at hcal;have hDm:=Dem.on (fun _ _ _ _ h=>h) (fun g w τ d=>Ends.on τ d) hD (fun _ _=>0) 0;obtain ⟨frm,hst,hm,hd,hf⟩:=qT x y (fr::cs) (V.on (fun _ _=>0) 0) EJ;obtain ⟨k,hk⟩:=hst;obtain ⟨-,hDp⟩:=yN (fun g w h=>oh h) k _ _ hDm rfl {frame:=frm,callers:=fr::cs,status:=.running,dying:=none} _ hk rfl (by simp;omega);have hcat:frm.catches Yq.prog=false:=by unfold Frame.catches;rw [hf,Yq.func69]
 obtain ⟨τ,d,e,u,hR,hC⟩:=Dn (ρ:=ρ) (en:=stopEntry x y) (V:=V) hDp [] hm rfl hcat (by rw [hd];exact fun d h=>by cases h) (.cons (eC hRel.go.frame _).1 (hRel.go.frame.defers.marks hSM) (RFs.fl hSM hcal)) (fun r b hrb l0 h0=>by
  obtain ⟨o,o',h1,h2,h3⟩:=hRel.sim.obj r b hrb;have h0:V.heap[r]?=_:=h0;rw [h1] at h0;cases h0;cases h3 with
  |deferred h=>exact h.marks hSM) ⟨rfl,fun _=>rfl⟩
 obtain ⟨l,pn,L,h1,h2,h3⟩:=hStop.stop τ d x y e u hR;exact ⟨l,pn,L,h1,h2,hce l L V u hC h3⟩
theorem wE {f0:FuncId}{R:(Nat->Question->Nat)->Nat->Ending->Wz->Prop}{Post:Wq->Wz->Prop}{U:Outer}(E:pq Gf Fs Fr)(hPre:yQ Pre)(hRecv:uW)(hStop:CM Pre R)(hce:∀l L V u,Ce V u->Pre l L u->Pre l L V):tD Tryz.prog U Gf [] (Ends Yq.prog f0 R) Post:=by
 intro f a a' fr fr' cs cs' V W ρ hM ⟨hargs,ha2⟩ hRel hD hsolo gs sl t q h0 hL hP;obtain rfl:f=69:=E.mark f (by rw [<-hRel.same];exact hM);obtain ⟨al⟩:=a;rcases al with - |⟨x,- |⟨y,- |⟨z,al⟩⟩⟩<;>simp at ha2
 have hD0:=hD;rw [E.alt] at hD0;obtain ⟨l,pn,L,rfl,rfl,hp⟩:=nQ E hStop hce hRel hD0;obtain ⟨r',hr,rfl⟩:=Bk hargs;have hlen:1<=cs.length:=by
  have:=hRel.go.callers.len1;simpa using this
 have hS:=hRel.calm;have hBM:=hRel.quiet.1;have hX:RFs Tryz.prog ρ ([trap Tryz.prog.alt],[]) (fr::cs) (fr'::cs'):=.cons hRel.go.frame hRel.go.kind hRel.go.callers;have hDn:=Dem.on (fun _ _ _ _ h=>h) (fun g w τ d=>Ends.on τ d) hD0 (fun _ _=>1) 0;obtain ⟨V4,⟨k4,hk4⟩,hV7,hV5,hos4⟩:=qX hPre l pn L (V.on (fun _ _=>1) 0) (fr::cs) (hPre.on V _ l L (fun _ _=>rfl) (lR _) hp) EI;obtain ⟨hls,hDh⟩:=yN (fun g w h=>oh h) k4 _ _ hDn rfl {frame:=pF2 V.heap.size l pn (V.heap.size+5),callers:=fr::cs,status:=.running,dying:=none} V4 hk4 rfl (by simp;omega);have hpath:LSs Yq.prog (Ends Yq.prog f0 R) {frame:=Frame.enter Yq.prog 69 #[lV l,.int .i64 pn] .normal,callers:=fr::cs,status:=.running,dying:=none} V {frame:=pF2 V.heap.size l pn (V.heap.size+5),callers:=fr::cs,status:=.running,dying:=none} V4:=by
  rcases LSs.on (fun g w τ d=>Ends.on τ d) hls with ⟨e,-⟩|h
  .exfalso;have:=congrArg (fun g:Goroutine=>g.frame.todo) e;rw [oi] at this;cases this
  .exact h
 have hV7:∀b,b<V.heap.size+7->b≠V.heap.size+5->V4.heap[b]?=(bN V l 1000).heap[b]?:=hV7;have hV5:V4.heap[V.heap.size+5]?=some (.chan 1000 L.toArray true L.length 0 false):=hV5;have hos4:V4.os=V.os:=hos4;have hVold:∀a b,ρ a b->V4.heap[a]?=V.heap[a]?:=fun a b h=>by
  have:=(hRel.sim.lt h).1;exact (hV7 a (by omega) (by omega)).trans (dW V l 1000 this)
 have hsz:W.heap.size+7=W.heap.size+7:=rfl;refine uT (B:=W.heap.size+7) (Dp {l with root:=r'} pn (fr'::cs') W (W.heap.size+7) rfl (fun dd=>?_)) gs sl t q h0 hL (hP.mono (by omega));have hpsz:((pgW W {l with root:=r'}).at dd).heap.size=W.heap.size+3:=uV W _;refine uT (Bf _ _ r' l.vs l.p l.d l.af ((pgW W {l with root:=r'}).at dd) (W.heap.size+7) (by rw [hpsz]) (fun d2=>?_));intro gs1 sl1 t1 q1 h1 hL1 hP1;have hrw:∀d3,(itW ((pgW W {l with root:=r'}).at dd) r' l.vs l.p l.d l.af 20).at d3=(bN W {l with root:=r'} 20).at d3:=fun _=>rfl
 rw [hpsz] at h1;rw [hrw];obtain ⟨Vs,hts,hSnd,hDs⟩:=Bm E hPre hRel.sim hS hr hp hRel.gid 0;obtain ⟨Vr,htr,hSide,honly,hDr⟩:=Bn E hRecv hRel.sim hS hr pn (hPre.item l L V hp) (hPre.len l L V hp) hRel.gid (fr'::cs') 0;refine yM (W:=bN W {l with root:=r'} 20) (g:=G ((base 97).at ⟨eO (W.heap.size+3) r' l.vs l.p l.d l.af (dM (W.heap.size+3)),[]⟩ [.inRegion tJ [1],.code iL]) (pF W.heap.size {l with root:=r'} pn::fr'::cs')) rfl (fun d=>Dt (W.heap.size+3) l r' _ _)
  (ρr:=(sK hRel.sim hS).low Fr (own3 V.heap.size) (V.heap.size+5) true htr) (ρs:=(Bl hRel.sim hS).low Fs (fun _=>False) (V.heap.size+5) false hts) (fun gs2 sl2 t2 q2 d k hk0 hg0 hgk hL2 hP2=>?_) gs1 sl1 t1 q1 d2 h1 hL1 (by rw [eF];exact hP1)
 have O:uJ Tryz.prog (phD (Ends Yq.prog f0 R) Gf Fs Fr L V.heap.size W.heap.size k (fr::cs,fr'::cs') ρ.rel {frame:=Frame.enter Yq.prog 69 #[lV l,.int .i64 pn] .normal,callers:=fr::cs,status:=.running,dying:=none} V U) Post:=
  FS E hk0 (fun v hv=>qY (hPre.item l L V hp v hv)) (fun h V hT=>by obtain ⟨_,_,_,_,_,_,_,rfl,-⟩:=hT;simp) hRel.gid hRel.ext hRel.same hS hBM hRel.out.2.2.2.2 hX hlen (fun h V2 hl=>hsolo h V2 (by rw [E.alt] at hl ⊢;exact hl))
 have hchA:∀c,(c=V.heap.size+5\/∃b o,ρ c b/\V.heap[c]?=some o/\o.isChan=true)->∃o,V4.heap[c]?=some o/\o.isChan=true:=fun c h=>by
  rcases h with rfl|⟨b,o,h1,h2,h3⟩
  .exact ⟨_,hV5,rfl⟩
  .exact ⟨o,(hVold c b h1).trans h2,h3⟩
 have SA:bB (ρ.plus V.heap.size W.heap.size (fun i=>i<7) (fun _ _ h=>hRel.sim.lt h) (fun c=>c=V.heap.size+5\/∃b o,ρ c b/\V.heap[c]?=some o/\o.isChan=true) hS) V4 ((bN W {l with root:=r'} 20).at d):=
  pp hRel.sim hS hr (fun i h=>h) (by omega) hVold (fun i h h5=>hV7 _ (by omega) (by omega)) ⟨_,_,_,_,_,hV5⟩ hos4 hchA d
 have prA:∀i,i<7->(ρ.plus V.heap.size W.heap.size (fun i=>i<7) (fun _ _ h=>hRel.sim.lt h) (fun c=>c=V.heap.size+5\/∃b o,ρ c b/\V.heap[c]?=some o/\o.isChan=true) hS) (V.heap.size+i) (W.heap.size+i):=fun i h=>ma h
 generalize hρA:ρ.plus V.heap.size W.heap.size (fun i=>i<7) (fun _ _ h=>hRel.sim.lt h) (fun c=>c=V.heap.size+5\/∃b o,ρ c b/\V.heap[c]?=some o/\o.isChan=true) hS=ρA at SA prA;have hFA:ρA.F=Gf:=by subst hρA;exact hRel.same
 have hAinv:∀a b,ρA a b->ρ a b\/∃i,i<7/\a=V.heap.size+i/\b=W.heap.size+i:=fun a b h=>by subst hρA;exact h
 have hAsub:∀a b,ρ a b->ρA a b:=fun a b h=>by subst hρA;exact .inl h
 have hrA:RAo ρA l.root r':=by
  generalize l.root=x at hr;cases hr with
  |none=>exact .none
  |some h=>exact .some ⟨hAsub _ _ h.1,h.2⟩
 have RR:nK (phD (Ends Yq.prog f0 R) Gf Fs Fr L V.heap.size W.heap.size k (fr::cs,fr'::cs') ρ.rel {frame:=Frame.enter Yq.prog 69 #[lV l,.int .i64 pn] .normal,callers:=fr::cs,status:=.running,dying:=none} V U) ρA ((sK hRel.sim hS).low Fr (own3 V.heap.size) (V.heap.size+5) true htr) ((bN W {l with root:=r'} 20).at d) {frame:=pF2 V.heap.size l pn (V.heap.size+5),callers:=fr::cs,status:=.running,dying:=none} (G (pF2 V.heap.size l pn (V.heap.size+5)) [trap Yq.prog]) (G (pF2 W.heap.size {l with root:=r'} pn (W.heap.size+5)) (fr'::cs')) V4 Vr L:=by
  refine ⟨⟨⟨tN (P:=Tryz.prog) (σ:=ρA) (prA 0 (by omega)) (prA 1 (by omega)) (prA 2 (by omega)) (prA 5 (by omega)) hrA (by rw [hFA];exact E.okG),.base,⟨fun _=>rfl,fun _=>rfl⟩,⟨rfl,rfl⟩,⟨rfl,rfl⟩,rfl,rfl⟩,SA,?_,by rw [hFA,<-hRel.same];exact hRel.ext,⟨by rw [hFA,<-hRel.same];exact hS,by rw [hFA,<-hRel.same];exact hBM⟩,by subst hρA;exact ⟨rfl,rfl⟩,by subst hρA;exact .inl rfl,prA 5 (by omega),⟨_,_,_,_,_,hV5,rfl⟩⟩,hSide.stays rfl (fun _ _ _ _=>rfl) rfl,honly,fun x h=>h,⟨E.rmk,rfl⟩,⟨hAsub,hFA⟩,fun a b o hab ho hc=>?_,fun a b hch hab hne=>?_⟩
  .have hg:=hRel.gid;subst hρA;exact ⟨fun g h=>.inl (hg.glob g h),hg.prog,hg.code,hg.alt,fun _ _ h=>h,hg.same,hg.size,hg.apart⟩
  .have hch:(a=V.heap.size+5\/∃b o,ρ a b/\V.heap[a]?=some o/\o.isChan=true):=by
    rcases hAinv a b hab with h|⟨i,hi,rfl,rfl⟩
    .exact .inr ⟨b,o,h,by rw [<-hVold a b h];exact ho,hc⟩
    .by_cases h5:i=5
     .subst h5;exact .inl rfl
     .exfalso;rw [hV7 _ (by omega) (by omega),bQ V l 1000 i hi] at ho;rcases i with - | - | - | - | - | - | - |i;all_goals first|omega|(cases ho;cases hc)
   subst hρA;exact hch
  .have hne:a≠V.heap.size+5:=hne;have hch:(a=V.heap.size+5\/∃b o,ρ a b/\V.heap[a]?=some o/\o.isChan=true):=by subst hρA;exact hch
   rcases hch with h|⟨b2,o,h1,h2,h3⟩
   .exact absurd h hne
   .obtain rfl:b2=b:=ρA.fn _ _ _ (hAsub _ _ h1) hab;obtain ⟨n1,s1,q1',tm1,rfl⟩:=hRel.quiet.2 a b2 o h1 h2 h3;obtain ⟨o1,o2,e1,e2,e3⟩:=hRel.sim.obj a b2 h1;rw [h2] at e1;cases e1;cases e3 with
    | @chan _ cap' _ b' _ cl' _ _ s' q' _ hb hcl=>
     have hb:RVs ρ #[] b':=hb.resolve_left (by rw [hRel.firm.1];exact fun h=>by cases h);obtain rfl:=hcl.resolve_left (by rw [hRel.firm.2];exact fun h=>by cases h);obtain rfl:b'=#[]:=Array.eq_empty_of_size_eq_zero (by rw [<-hb.size];rfl);exact ⟨_,_,_,_,_,_,_,(hVold a b2 h1).trans h2,(dW W _ 20 (hRel.sim.lt h1).2).trans e2⟩
 have hrinv:∀a b,((sK hRel.sim hS).low Fr (own3 V.heap.size) (V.heap.size+5) true htr) a b->ρ a b\/∃i,i<7/\a=V.heap.size+i/\b=W.heap.size+i:=fun a b h=>h
 have hsinv:∀a b,((Bl hRel.sim hS).low Fs (fun _=>False) (V.heap.size+5) false hts) a b->ρ a b\/∃i,(3<=i/\i<7)/\a=V.heap.size+i/\b=W.heap.size+i:=fun a b h=>h
 have same:∀x y b,(ρ x b\/∃i,i<7/\x=V.heap.size+i/\b=W.heap.size+i)->(ρ y b\/∃i,(3<=i/\i<7)/\y=V.heap.size+i/\b=W.heap.size+i)->x=y/\¬own3 V.heap.size y:=fun x y b h1 h2=>by
  rcases h1 with h1|⟨i,hi,h1,h3⟩<;>rcases h2 with h2|⟨j,hj,h2,h4⟩
  .have:=(hRel.sim.lt h2).1;exact ⟨ρ.inj _ _ _ h1 h2,fun h=>by rcases h with h|h|h<;>omega⟩
  .have:=(hRel.sim.lt h1).2;omega
  .have:=(hRel.sim.lt h2).2;omega
  .exact ⟨by omega,fun h=>by rcases h with h|h|h<;>omega⟩
 have hpr:((sK hRel.sim hS).low Fr (own3 V.heap.size) (V.heap.size+5) true htr) (V.heap.size+6) (W.heap.size+6):=.inr ⟨6,by omega,rfl,rfl⟩;have hDs':Dem Tryz.prog.alt (phD (Ends Yq.prog f0 R) Gf Fs Fr L V.heap.size W.heap.size k (fr::cs,fr'::cs') ρ.rel {frame:=Frame.enter Yq.prog 69 #[lV l,.int .i64 pn] .normal,callers:=fr::cs,status:=.running,dying:=none} V U).Ns (phD (Ends Yq.prog f0 R) Gf Fs Fr L V.heap.size W.heap.size k (fr::cs,fr'::cs') ρ.rel {frame:=Frame.enter Yq.prog 69 #[lV l,.int .i64 pn] .normal,callers:=fr::cs,status:=.running,dying:=none} V U).Ts (Ft V.heap.size) Vs:=by rw [E.alt];exact hDs
 have hDr':Dem Tryz.prog.alt (phD (Ends Yq.prog f0 R) Gf Fs Fr L V.heap.size W.heap.size k (fr::cs,fr'::cs') ρ.rel {frame:=Frame.enter Yq.prog 69 #[lV l,.int .i64 pn] .normal,callers:=fr::cs,status:=.running,dying:=none} V U).Nr (phD (Ends Yq.prog f0 R) Gf Fs Fr L V.heap.size W.heap.size k (fr::cs,fr'::cs') ρ.rel {frame:=Frame.enter Yq.prog 69 #[lV l,.int .i64 pn] .normal,callers:=fr::cs,status:=.running,dying:=none} V U).Tr (G (pF2 V.heap.size l pn (V.heap.size+5)) [trap Yq.prog]) Vr:=by rw [E.alt];exact hDr
 refine Dh O hDr' _ _ hDs' gs2 ((bN W {l with root:=r'} 20).at d) sl2 t2 q2 ρA _ _ _ _ L [] [] [] 20 0 0 false 14 2
  (.pre 12 RR (by rw [E.alt];exact hDh) (by rw [E.alt];exact hpath) ⟨⟨_,hpr,fun h=>?_⟩,?_⟩ (tM W.heap.size (W.heap.size+3) {l with root:=r'} pn (fr'::cs') ((bN W {l with root:=r'} 20).at d) r' (iX W {l with root:=r'} 20).out))
  (.new (hSnd.stays rfl (fun _ _ _ _=>rfl) rfl) (fun v=>yV W.heap.size v) rfl) ⟨_,de W {l with root:=r'} 20,rfl⟩ (by omega) rfl rfl ?_ ?_ hg0 hgk hL2 hP2
 .have h:V.heap.size+6=V.heap.size+5:=h;omega
 .show W.heap.size+6≠W.heap.size+5;omega
 .intro b x y hx hy;obtain ⟨rfl,ho⟩:=same x y b (hrinv _ _ hx) (hsinv _ _ hy);by_cases h5:x=V.heap.size+5
  .exact .inr ⟨h5,h5⟩
  .exact .inl ⟨⟨⟨b,hx⟩,ho,h5⟩,⟨b,hy⟩,(fun h=>h),h5⟩
 .have hko:∀i,¬U.Ko (W.heap.size+i):=fun i h=>by
   have:=U.lt _ h;have:=hRel.out.1.1;omega
  have hoff:∀a b,(ρ a b\/∃i,i<7/\a=V.heap.size+i/\b=W.heap.size+i)->¬U.Ko b:=fun a b h=>by
   rcases h with h|⟨i,-,-,rfl⟩
   .exact hRel.out.2.1 a b h
   .exact hko i
  refine ⟨fun b x y hx hy=>?_,⟨⟨?_,?_,fun b hb=>?_⟩,⟨fun a b h=>hoff a b (hAinv a b h),fun a b h=>hAsub a b (hRel.out.2.2.1 a b h),by rw [<-hρA];exact hRel.out.2.2.2⟩,⟨fun a b h=>hoff a b (hrinv a b h),fun a b h=>.inl (hRel.out.2.2.1 a b h),hRel.out.2.2.2⟩,hko 5⟩,⟨fun a b h=>hoff a b ((hsinv a b h).imp id (fun ⟨i,h1,h2⟩=>⟨i,h1.2,h2⟩)),fun a b h=>.inl (hRel.out.2.2.1 a b h),hRel.out.2.2.2⟩⟩
  .by_cases h5:y=V.heap.size+5
   .exact .inr h5
   .exact .inl ⟨⟨b,hy⟩,(fun h=>h),h5⟩
  .have:=hRel.out.1.1;show U.W0.heap.size<=(bN W {l with root:=r'} 20).heap.size;rw [eF];omega
  .exact hRel.out.1.2.1
  .have h1:=U.lt b hb;have h2:=hRel.out.1.1;exact (dW W {l with root:=r'} 20 (by omega)).trans (hRel.out.1.2.2 b hb)
end
def pu (P:Wx)(D0:Nat->Prop)(F:FuncId->Bool)(pin:Nat->Option (Array Wq))(hb:NoM P 3):Ren where
 rel:=fun a b=>a=b/\D0 a
 fn:=fun _a _b _b' h1 h2=>h1.1.symm.trans h2.1
 inj:=fun _a _a' _b h1 h2=>h1.1.trans h2.1.symm
 prog:=P
 F:=F
 old:=fun _=>False
 ch:=fun _=>False
 loose:=false
 wide:=false
 tight:=fun _=>rfl
 pin:=pin
 bad:=3
 noM:=hb
structure Start (W:Wz)(D0:Nat->Prop):Prop where
 rows:∀b,D0 b->∃c e z,W.heap[b]?=some (.cells c e z)
 glob:∀g,g<Tryz.prog.globals.size->D0 g
theorem Bo {ρ:Ren}{v:Wq}(h:lr v=true):RV ρ v v:=by
 cases v with
 |bool b=>exact .bool b
 |int k n=>exact .int k n
 |string s=>exact .string s
 |pointer a=>cases a with
  |none=>exact .pointer .none
  |some a=>cases h
 |slice a n c=>cases a with
  |none=>exact .slice n c .none
  |some a=>cases h
 |map r=>cases r with
  |none=>exact .map .none
  |some r=>cases h
 |chan r=>cases r with
  |none=>exact .chan .none
  |some r=>cases h
 |nilFunc=>exact .nilFunc
 |nilIface=>exact .nilIface
 |_=>cases h
theorem Bp {ρ:Ren}{v v':Wq}(h:lr v=true)(k:RV ρ v v'):v'=v:=by
 cases k with
 |bool|int|string|nilFunc|nilIface=>rfl
 |pointer k=>cases k with
  |none=>rfl
  |some _=>cases h
 |slice n c k=>cases k with
  |none=>rfl
  |some _=>cases h
 |map k=>cases k with
  |none=>rfl
  |some _=>cases h
 |chan k=>cases k with
  |none=>rfl
  |some _=>cases h
 |_=>cases h
structure kQ (u v:Wq):Prop where
 rel:∀ρ:Ren,ρ.bad=3->RV ρ u v
 one:lr v=true->u=v
 no:lr v=false->gJ u=false\/∀ (ρ:Ren) v',RV ρ u v'->v'=v
theorem yW:∀ (n:Nat)(v:Wq),SizeOf.sizeOf v<n->∃u,kQ u v:=by
 intro n;induction n with
 |zero=>intro v h;omega
 |succ n ih=>
  intro v hn;have dead:gF v=true->lr v=false->∃u,kQ u v:=fun h1 h2=>⟨.tuple #[],fun _ _=>.dead v h1,(fun h=>by rw [h2] at h;cases h),fun _=>.inl rfl⟩
  have self:lr v=true->∃u,kQ u v:=fun h=>⟨v,fun _ _=>Bo h,fun _=>rfl,fun h2=>by rw [h] at h2;cases h2⟩
  cases v with
  |agg c=>
   obtain ⟨c0,h0,h1⟩:=mS (c:=c) (c':=c) (Q:=fun v _ u=>kQ u v) rfl (fun i v v' hv _=>ih v (by
    have:=Array.sizeOf_lt_of_mem (Array.mem_of_getElem? hv);simp only [Value.agg.sizeOf_spec] at hn;omega))
   refine ⟨.agg c0,fun ρ hb=>.agg h0 (fun i u v k1 k2=>?_),fun h=>(by cases h),fun _=>.inl rfl⟩;obtain ⟨u2,e,k⟩:=h1 i v v k2 k2;rw [k1] at e;cases e;exact k.rel ρ hb
  |pointer a=>cases a with
   |none=>exact self rfl
   |some a=>exact dead rfl rfl
  |slice a n c=>cases a with
   |none=>exact self rfl
   |some a=>exact dead rfl rfl
  |map a=>cases a with
   |none=>exact self rfl
   |some a=>exact dead rfl rfl
  |chan a=>cases a with
   |none=>exact self rfl
   |some a=>exact dead rfl rfl
  |func f a c=>cases f with
   |method s=>
    refine ⟨.func (.method "") #[.iface 3 (.func (.method s) a c)] #[], fun ρ hb => .odd 3 s a c hb.symm, fun h => (by cases h), fun _ => .inr (fun ρ v' h => ?_)⟩
    cases h with
    |func hf=>cases hf
    |odd=>rfl
   |_=>exact dead rfl rfl
  |bool|int|string|nilFunc|nilIface=>exact self rfl
  |_=>exact dead rfl rfl
theorem wF (c:Array Wq):∃c0:Array Wq,c0.size=c.size/\∀ (i:Nat) v,c[i]?=some v->∃u,c0[i]?=some u/\kQ u v:=by
 obtain ⟨c0,h0,h1⟩:=mS (c:=c) (c':=c) (Q:=fun v _ u=>kQ u v) rfl (fun i v v' _ _=>yW _ v (Nat.lt_succ_self _));exact ⟨c0,h0,fun i v hv=>h1 i v v hv hv⟩
structure Clean (D0:Nat->Prop)(W V:Wz):Prop where
 os:V.os=W.os
 size:V.heap.size=W.heap.size
 rest:∀b,¬D0 b->V.heap[b]?=W.heap[b]?
 row:∀b,D0 b->∃c c0 e z,W.heap[b]?=some (.cells c e z)/\V.heap[b]?=some (.cells c0 e z)/\c0.size=c.size/\∀ (i:Nat) v,c[i]?=some v->∃u,c0[i]?=some u/\kQ u v
theorem Bq {W:Wz}{D0:Nat->Prop}(h:Start W D0):∃V,Clean D0 W V:=by
 classical
 have key:∀b:Nat,∃o:Obj,(D0 b->∃c c0 e z,W.heap[b]?=some (.cells c e z)/\o=.cells c0 e z/\c0.size=c.size/\∀ (i:Nat) v,c[i]?=some v->∃u,c0[i]?=some u/\kQ u v)/\(¬D0 b->b<W.heap.size->W.heap[b]?=some o):=fun b=>by
  by_cases hd:D0 b
  .obtain ⟨c,e,z,h1⟩:=h.rows b hd;obtain ⟨c0,h2,h3⟩:=wF c;exact ⟨.cells c0 e z,fun _=>⟨c,c0,e,z,h1,rfl,h2,h3⟩,fun k=>absurd hd k⟩
  .by_cases hb:b<W.heap.size
   .exact ⟨W.heap[b],fun k=>absurd k hd,fun _ _=>eG hb⟩
   .exact ⟨.coro none,fun k=>absurd k hd,fun _ k=>absurd k hb⟩
 obtain ⟨f,key⟩:=Classical.skolem.1 key;refine ⟨{W with heap:=Array.ofFn (n:=W.heap.size) fun a=>f a.1},rfl,by simp,fun b hb=>?_,fun b hb=>?_⟩
 .by_cases hlt:b<W.heap.size
  .rw [(key b).2 hb hlt];simp [hlt]
  .rw [Array.getElem?_eq_none (by simpa using hlt),Array.getElem?_eq_none (by omega)]
 .obtain ⟨c,c0,e,z,h1,h2,h3⟩:=(key b).1 hb;have hlt:=(eS h1).1;exact ⟨c,c0,e,z,h1,by simp [hlt,h2],h3⟩
theorem Clean.cell {W V:Wz}{D0:Nat->Prop}(h:Clean D0 W V){a:Addr}{v:Wq}(hv:W.cell? a=some v)(h1:lr v=true):V.cell? a=some v:=by
 unfold World.cell? at hv ⊢;by_cases hd:D0 a.block
 .obtain ⟨c,c0,e,z,k1,k2,-,k4⟩:=h.row _ hd;rw [k1] at hv;rw [k2];simp only at hv ⊢;split at hv
  .cases hv
  .rename_i hs;obtain ⟨u,e1,e2⟩:=k4 _ _ hv;rw [if_neg hs,e1,e2.one h1]
 .rw [h.rest _ hd];exact hv
noncomputable def jz (W:Wz)(D0:Nat->Prop)(b:Nat):Option (Array Wq):=by
 classical
 exact if D0 b then match W.heap[b]? with|some (.cells c _ _)=>some c|_=>none else none
theorem q9 {W V:Wz}{D0:Nat->Prop}(h:Clean D0 W V)(P:Wx)(F:FuncId->Bool)(hb:NoM P 3):bB (pu P D0 F (jz W D0) hb) V W:=by
 refine ⟨fun a b hab=>?_,fun _ h=>h.elim,fun _ h=>h.elim,h.os.symm,fun _ a c0 hp=>?_⟩
 .obtain ⟨rfl,hd⟩:=hab;obtain ⟨c,c0,e,z,h1,h2,h3,h4⟩:=h.row a hd;refine ⟨_,_,h2,h1,.cells e (.inl rfl) ⟨h3,fun i u v k1 k2=>?_⟩⟩;obtain ⟨u2,e1,e2⟩:=h4 i v k2;rw [k1] at e1;cases e1;exact e2.rel _ rfl
 .have hp:jz W D0 a=some c0:=hp;unfold jz at hp;split at hp
  .rename_i hd;obtain ⟨c,c1,e,z,h1,h2,-⟩:=h.row a hd;rw [h1] at hp;cases hp;exact ⟨a,⟨rfl,hd⟩,c1,e,z,c0,z,h2,h1,fun _ _ _ _=>rfl⟩
  .cases hp
structure ra (W W':Wz):Prop where
 os:W'.os=W.os
 output:W'.output=W.output
 size:W.heap.size<=W'.heap.size
 block:∀b,b<W.heap.size->W'.heap[b]?=W.heap[b]?
def j4 (Pre:Lst->List Wq->Wz->Prop)(W:Wz)(e:Ending)(u:Wz):Prop:=
 (e=.returned (.bool true)/\u.os=W.os/\∀b,b<W.heap.size->u.heap[b]?=W.heap[b]?)\/∃x y l,e=.panicked (stopEntry x y::l)/\∃ls pn L,x=lV ls/\y=.int .i64 pn/\Pre ls L u
section
variable [Two Tryz.prog] [Two Yq.prog] {Gf Fs Fr Fa:FuncId->Bool} {Pre:Lst->List Wq->Wz->Prop}
theorem Du (E:pq Gf Fs Fr)(sG:fJ Tryz.prog Gf)(sA:fJ Yq.prog Fa)(mkA:∀f,¬Mk Fa f=true)(hG:Gf fE=false/\Gf kJ=false/\Gf 69=false/\Gf kI=true)(hPre:yQ Pre)(hRecv:uW)(hce:∀l L V u,Ce V u->Pre l L u->Pre l L V)
  {f0:FuncId} {fn:Func} {b0:Code} (hfz:Tryz.prog.funcs[f0]?=some fn) (hfq:Yq.prog.funcs[f0]?=some fn) (hb0:fn.body=some b0) (hinit:Tryz.prog.inits.idxOf? f0=none) (h0G:Gf f0=true) (h0A:Fa f0=true) {args:Array Wq} {W:Wz} {D0:Nat->Prop} (hst:Start W D0) (hargs:∀ (ρ:Ren),(∀b,D0 b->ρ b b)->RVs ρ args args)
  (hcalls:∀V,Clean D0 W V->∀τ d,Calls Yq.prog f0 args (V.on τ d) (j4 Pre V)):Fin Tryz.prog (fun v W'=>v=.bool true/\ra W W') #[G (Frame.enter Tryz.prog f0 args .normal) []] W none #[]:=by
 obtain ⟨V0,hcl⟩:=Bq hst;replace hcalls:=hcalls V0 hcl;have hbz:NoM Tryz.prog 3:=by unfold NoM;kernel_rfl
 have hbq:NoM Yq.prog 3:=yT E hbz rfl;have hA:∀F,RVs (pu Tryz.prog D0 F (jz W D0) hbz) args args:=fun F=>hargs _ (fun b h=>⟨rfl,h⟩)
 have hA1:∀F,RVs (pu Yq.prog D0 F (jz W D0) hbq) args args:=fun F=>hargs _ (fun b h=>⟨rfl,h⟩)
 have frm:∀ (P Q:Wx) (σ:Ren),P.funcs[f0]?=some fn->Q.funcs[f0]?=some fn->RVs σ args args->aB P σ.F b0=true->RFr P σ (Frame.enter Q f0 args .normal) (Frame.enter P f0 args .normal):=fun P Q σ hP hQ ha ho=>by
  have e1:(Frame.enter Q f0 args .normal).todo=[.code b0]:=by simp [Frame.enter,hQ,hb0]
  have e2:(Frame.enter P f0 args .normal).todo=[.code b0]:=by simp [Frame.enter,hP,hb0]
  have t1:(Frame.enter Q f0 args .normal).tmps=args++Array.replicate (fn.ntmps-args.size) undef:=by simp [Frame.enter,hQ]
  have t2:(Frame.enter P f0 args .normal).tmps=args++Array.replicate (fn.ntmps-args.size) undef:=by simp [Frame.enter,hP]
  refine ⟨rfl,?_,by rw [e1,e2];exact .cons (.code ho) .nil,.nil,.run,⟨rfl,rfl,by simp [Frame.enter]⟩,.none⟩;rw [t1,t2];refine ⟨rfl,fun i v v' h1 h2=>?_⟩;rw [h1] at h2;cases h2;rw [Array.getElem?_append] at h1;split at h1
  .exact ha.at_ i v v h1 h1
  .simp only [Array.getElem?_replicate] at h1;split at h1
   .cases h1;exact cK
   .cases h1
 have hout:∀ (τ:Nat->Question->Nat) (d:Nat) (u:Wz),¬j4 Pre V0 .outgrown u:=fun τ d u h=>by
  rcases h with ⟨h,-⟩|⟨_,_,_,h,-⟩<;>cases h
 have hself:Self Yq.prog ([trap Yq.prog],[]) (fun _=>False) Fa {frame:=Frame.enter Yq.prog f0 args .normal,callers:=[trap Yq.prog],status:=.running,dying:=none} V0:=
  ⟨rfl,pu Yq.prog D0 Fa (jz W D0) hbq,{frame:=Frame.enter Yq.prog f0 args .normal,callers:=[],status:=.running,dying:=none},W,⟨frm Yq.prog Yq.prog _ hfq hfq (hA1 _) (sA.code f0 fn b0 h0A hfq hb0),.base,⟨fun _=>rfl,fun _=>rfl⟩,⟨rfl,rfl⟩,⟨rfl,rfl⟩,rfl,rfl⟩,q9 hcl _ _ _,sA.gid (σ:=pu Yq.prog D0 Fa (jz W D0) hbq) (fun g hg=>⟨rfl,hst.glob g (by rw [Yq.globals_size] at hg;exact hg)⟩) rfl (fun _ _ h=>h),sA.ext,rfl,rfl,⟨rfl,fun _ h=>h.elim,rfl⟩,fun _ h=>h,mkA⟩
 have hD:=(qN E.zero1 E.count1 (R:=fun _ _=>j4 Pre V0) hcalls hout hself).imp (N':=fun g _=>NB [trap Yq.prog] g) (fun g w h=>h.2)
 let U:Outer:=⟨fun b=>b<W.heap.size/\¬D0 b,W,fun b h=>h.1,fun a b=>a=b/\D0 a,jz W D0,3⟩
 have hleaf:Leaf Tryz.prog U Gf (Ends Tryz.prog.alt f0 (fun _ _=>j4 Pre V0)) (fun v W'=>v=.bool true/\ra W W'):=by
  refine Dj (page:=69) hG.2.2.1 hinit (fun τ d e u h=>?_) (fun h V ρ g W1 ρ' W' hE hm hRel hle S hK=>⟨rfl,?_⟩)
  .rcases h with ⟨h,-⟩|⟨x,y,l,h,-⟩
   .exact .inl h
   .exact .inr ⟨_,_,_,_,_,_,h⟩
  .obtain ⟨τ,d,τ',d',e,fr,hR,rfl,-,hlv,-⟩:=hE;rcases hR with ⟨rfl,hos,hrow⟩|⟨x,y,l,rfl,-⟩
   .refine ⟨S.os.trans (hos.trans hcl.os),hK.2.1,hK.1,fun b hb=>?_⟩;by_cases hd:D0 b
    .have hbb:ρ' b b:=hle _ _ (hRel.out.2.2.1 b b ⟨rfl,hd⟩);obtain ⟨c,c0,e,z,h1,h0,h3,h2⟩:=hcl.row b hd;obtain ⟨o,o',k1,k2,k3⟩:=S.obj b b hbb;have hF:ρ'.F kI=true:=by rw [hle.F,hRel.same];exact hG.2.2.2
     have hpin:ρ'.pin b=some c:=by
      rw [hle.pin,hRel.out.2.2.2.1];show jz W D0 b=some c;unfold jz;rw [if_pos hd,h1]
     obtain ⟨b2,hb2,c1,e1,z1,c2,z2,p1,p2,p3⟩:=S.pin hF b c hpin;obtain rfl:=ρ'.fn _ _ _ hbb hb2;have hrow:V.heap[b]?=V0.heap[b]?:=hrow b (by rw [hcl.size];exact hb);rw [hrow,h0] at k1 p1;cases k1;cases p1;rw [p2] at k2;cases k2;cases k3 with
     |cells e hz hv=>
      rcases hz with rfl|⟨hz,-⟩
      .rw [p2,h1];refine congrArg (fun x=>some (Obj.cells x e z)) ?_;refine Array.ext_getElem? (fun i=>?_);by_cases hi:i<c.size
       .obtain ⟨u,q1,q2⟩:=h2 i _ (eG hi);by_cases ho:lr c[i]=true
        .have q3:i<c2.size:=by rw [<-hv.size,h3];exact hi
         have q4:=q2.one ho;have:=hv.at_ i u _ q1 (eG q3);rw [q4] at this;rw [eG q3,eG hi,Bp ho this]
        .rcases q2.no (by simpa using ho) with q5|q5
         .exact p3 i u q1 q5
         .have q3:i<c2.size:=by rw [<-hv.size,h3];exact hi
          rw [eG q3,eG hi,q5 _ _ (hv.at_ i u _ q1 (eG q3))]
       .rw [Array.getElem?_eq_none (by rw [<-hv.size,h3];omega),Array.getElem?_eq_none (by omega)]
      .rw [hF] at hz;cases hz
    .exact hK.2.2 b ⟨hb,hd⟩
   .have hlv:=hlv.1;rw [hm] at hlv;cases hlv
 have hap:tD Tryz.prog U Gf [] (Ends Tryz.prog.alt f0 (fun _ _=>j4 Pre V0)) (fun v W'=>v=.bool true/\ra W W'):=by
  rw [E.alt];refine wE E hPre hRecv ⟨fun τ d x y e u h=>?_⟩ hce;rcases h with ⟨h,-⟩|⟨x',y',l,h,hp⟩
  .cases h
  .cases h;exact hp
 have hD':Dem Tryz.prog.alt (fun g _=>NB [trap Tryz.prog.alt] g) (Ends Tryz.prog.alt f0 (fun _ _=>j4 Pre V0)) {frame:=Frame.enter Yq.prog f0 args .normal,callers:=[trap Yq.prog],status:=.running,dying:=none} V0:=by
  rw [E.alt];exact hD
 have hrel:Rel Tryz.prog U Gf [] (pu Tryz.prog D0 Gf (jz W D0) hbz) {frame:=Frame.enter Yq.prog f0 args .normal,callers:=[trap Yq.prog],status:=.running,dying:=none} {frame:=Frame.enter Tryz.prog f0 args .normal,callers:=[],status:=.running,dying:=none} V0 W:=by
  have hf:=frm Tryz.prog Yq.prog (pu Tryz.prog D0 Gf (jz W D0) hbz) hfz hfq (hA _) (sG.code f0 fn b0 h0G hfz hb0);have hgid:GId Tryz.prog (pu Tryz.prog D0 Gf (jz W D0) hbz):=sG.gid (σ:=pu Tryz.prog D0 Gf (jz W D0) hbz) (fun g hg=>⟨rfl,hst.glob g hg⟩) rfl (fun _ _ h=>h);have hk:∀P:Wx,(Frame.enter P f0 args .normal).kind=.normal/\(Frame.enter P f0 args .normal).roundOf=none:=fun _=>⟨rfl,rfl⟩
  refine ⟨⟨hf,by rw [E.alt];exact .base,⟨fun _=>(hk _).1.trans (hk _).1.symm,fun _=>(hk _).2⟩,⟨rfl,rfl⟩,⟨rfl,rfl⟩,rfl,rfl⟩,q9 hcl _ _ _,hgid,sG.ext,hG.1,rfl,⟨rfl,rfl⟩,⟨hG.2.1,fun a b o hab ho hc=>?_⟩,⟨⟨lR _,rfl,fun _ _=>rfl⟩,fun a b hab hk=>?_,fun a b h=>h,rfl,rfl⟩⟩
  .obtain ⟨_,c,e,z,-,h1,-⟩:=hcl.row a hab.2;rw [h1] at ho;cases ho;cases hc
  .obtain ⟨rfl,hd⟩:=hab;exact hk.2 hd
 have hlv:Lv Tryz.prog (fun _=>False) #[] #[({frame:=Frame.enter Tryz.prog f0 args .normal,callers:=[],status:=.running,dying:=none}:Goroutine)] (fun _=>0):=by
  refine ⟨fun j y hj _ hy=>?_,fun j hj=>?_⟩
  .cases j with
   |zero=>omega
   |succ j=>simp at hy
  .exact (Go.Conc.leavers_one Tryz.prog {frame:=Frame.enter Tryz.prog f0 args .normal,callers:=[],status:=.running,dying:=none}).above j hj
 exact Dg E.zero E.count (yJ hleaf) hap hD' _ _ (.refl _ _) _ _ W none #[] (fun _=>0) _ rfl hlv (Go.Conc.past_nil.mono (Nat.zero_le _)) hrel
end
end
