/- Part of a proof. -/
import Derived.Test.YtnapepbdohidgaaGreatDoorQM14
set_option maxHeartbeats 4000000
set_option maxRecDepth 100000
namespace Go.Proofs.YtnapepbdohidgaaGreatDoorQ
section
open Go
open Go.Conc Go.ConcX Go.ConcX.Gen Go.RowKit
section
variable [Two Tryz.prog] [Two Yq.prog] {Gf Fs Fr:FuncId->Bool} {Pre:Lst->List Value->World->Prop}
theorem nk {f0:FuncId}{R:(Nat->Question->Nat)->Nat->Ending->World->Prop}(E:oM Gf Fs Fr)(hStop:BG Pre R)(hce:∀l L V u,Ce V u->Pre l L u->Pre l L V){x y:Value}{fr fr':Frame}{cs cs':List Frame}{V W:World}{ρ:Ren}{U:Outer}
  (hRel:Rel Tryz.prog U Gf [] ρ {frame:=fr,callers:=cs,status:=.running,dying:=none} {frame:=fr',callers:=cs',status:=.running,dying:=none} V W)
  (hD:Dem Yq.prog (fun g _=>NB [trap Yq.prog] g) (Ends Yq.prog f0 R) {frame:=Frame.enter Yq.prog 69 #[x,y] .normal,callers:=fr::cs,status:=.running,dying:=none} V):
  ∃l pn L,x=lV l/\y=.int .i64 pn/\Pre l L V:=by
 have hSM:(ρ.F ft||ρ.F j8)=false:=by rw [hRel.calm,hRel.quiet.1];rfl
 have hlen:1<=cs.length:=by
  have:=hRel.go.callers.len1;simpa using this
 have hcal:=hRel.go.callers;rw [E.alt] at hcal;have hDm:=Dem.on (fun _ _ _ _ h=>h) (fun g w τ d=>Ends.on τ d) hD (fun _ _=>0) 0;obtain ⟨frm,hst,hm,hd,hf⟩:=qq x y (fr::cs) (V.on (fun _ _=>0) 0) DF;obtain ⟨k,hk⟩:=hst;obtain ⟨-,hDp⟩:=xK (fun g w h=>nJ h) k _ _ hDm rfl {frame:=frm,callers:=fr::cs,status:=.running,dying:=none} _ hk rfl (by simp;omega);have hcat:frm.catches Yq.prog=false:=by unfold Frame.catches;rw [hf,Yq.func69]
 obtain ⟨τ,d,e,u,hR,hC⟩:=Ck (ρ:=ρ) (en:=stopEntry x y) (V:=V) hDp [] hm rfl hcat (by rw [hd];exact fun d h=>by cases h) (.cons (eq hRel.go.frame _).1 (hRel.go.frame.defers.marks hSM) (RFs.fl hSM hcal)) (fun r b hrb l0 h0=>by
  obtain ⟨o,o',h1,h2,h3⟩:=hRel.sim.obj r b hrb;have h0:V.heap[r]?=_:=h0;rw [h1] at h0;cases h0;cases h3 with
  |deferred h=>exact h.marks hSM) ⟨rfl,fun _=>rfl⟩
 obtain ⟨l,pn,L,h1,h2,h3⟩:=hStop.stop τ d x y e u hR;exact ⟨l,pn,L,h1,h2,hce l L V u hC h3⟩
theorem vB {f0:FuncId}{R:(Nat->Question->Nat)->Nat->Ending->World->Prop}{Post:Value->World->Prop}{U:Outer}(E:oM Gf Fs Fr)(hPre:xN Pre)(hRecv:ud)(hStop:BG Pre R)(hce:∀l L V u,Ce V u->Pre l L u->Pre l L V):si Tryz.prog U Gf [] (Ends Yq.prog f0 R) Post:=by
 intro f a a' fr fr' cs cs' V W ρ hM ⟨hargs,ha2⟩ hRel hD hsolo gs sl t q h0 hL hP;obtain rfl:f=69:=E.mark f (by rw [<-hRel.same];exact hM);obtain ⟨al⟩:=a;rcases al with - |⟨x,- |⟨y,- |⟨z,al⟩⟩⟩<;>simp at ha2
 have hD0:=hD;rw [E.alt] at hD0;obtain ⟨l,pn,L,rfl,rfl,hp⟩:=nk E hStop hce hRel hD0;obtain ⟨r',hr,rfl⟩:=Ao hargs;have hlen:1<=cs.length:=by
  have:=hRel.go.callers.len1;simpa using this
 have hS:=hRel.calm;have hBM:=hRel.quiet.1;have hX:RFs Tryz.prog ρ ([trap Tryz.prog.alt],[]) (fr::cs) (fr'::cs'):=.cons hRel.go.frame hRel.go.kind hRel.go.callers;have hDn:=Dem.on (fun _ _ _ _ h=>h) (fun g w τ d=>Ends.on τ d) hD0 (fun _ _=>1) 0;obtain ⟨V4,⟨k4,hk4⟩,hV7,hV5,hos4⟩:=qu hPre l pn L (V.on (fun _ _=>1) 0) (fr::cs) (hPre.on V _ l L (fun _ _=>rfl) (lR _) hp) DE;obtain ⟨hls,hDh⟩:=xK (fun g w h=>nJ h) k4 _ _ hDn rfl {frame:=pF2 V.heap.size l pn (V.heap.size+5),callers:=fr::cs,status:=.running,dying:=none} V4 hk4 rfl (by simp;omega);have hpath:LSs Yq.prog (Ends Yq.prog f0 R) {frame:=Frame.enter Yq.prog 69 #[lV l,.int .i64 pn] .normal,callers:=fr::cs,status:=.running,dying:=none} V {frame:=pF2 V.heap.size l pn (V.heap.size+5),callers:=fr::cs,status:=.running,dying:=none} V4:=by
  rcases LSs.on (fun g w τ d=>Ends.on τ d) hls with ⟨e,-⟩|h
  ·exfalso;have:=congrArg (fun g:Goroutine=>g.frame.todo) e;rw [nK] at this;cases this
  ·exact h
 have hV7:∀b,b<V.heap.size+7->b≠V.heap.size+5->V4.heap[b]?=(bF V l 1000).heap[b]?:=hV7;have hV5:V4.heap[V.heap.size+5]?=some (.chan 1000 L.toArray true L.length 0 false):=hV5;have hos4:V4.os=V.os:=hos4;have hVold:∀a b,ρ a b->V4.heap[a]?=V.heap[a]?:=fun a b h=>by
  have:=(hRel.sim.lt h).1;exact (hV7 a (by omega) (by omega)).trans (dP V l 1000 this)
 have hsz:W.heap.size+7=W.heap.size+7:=rfl;refine tY (B:=W.heap.size+7) (Cm {l with root:=r'} pn (fr'::cs') W (W.heap.size+7) rfl (fun dd=>?_)) gs sl t q h0 hL (hP.mono (by omega));have hpsz:((pgW W {l with root:=r'}).at dd).heap.size=W.heap.size+3:=ub W _;refine tY (Aj _ _ r' l.vs l.p l.d l.af ((pgW W {l with root:=r'}).at dd) (W.heap.size+7) (by rw [hpsz]) (fun d2=>?_));intro gs1 sl1 t1 q1 h1 hL1 hP1;have hrw:∀d3,(itW ((pgW W {l with root:=r'}).at dd) r' l.vs l.p l.d l.af 20).at d3=(bF W {l with root:=r'} 20).at d3:=fun _=>rfl
 rw [hpsz] at h1;rw [hrw];obtain ⟨Vs,hts,hSnd,hDs⟩:=Aq E hPre hRel.sim hS hr hp hRel.gid 0;obtain ⟨Vr,htr,hSide,honly,hDr⟩:=Ar E hRecv hRel.sim hS hr pn (hPre.item l L V hp) (hPre.len l L V hp) hRel.gid (fr'::cs') 0;refine xJ (W:=bF W {l with root:=r'} 20) (g:=G ((base 97).at ⟨eF (W.heap.size+3) r' l.vs l.p l.d l.af (dE (W.heap.size+3)),[]⟩ [.inRegion sw [1],.code iw]) (pF W.heap.size {l with root:=r'} pn::fr'::cs')) rfl (fun d=>Cq (W.heap.size+3) l r' _ _)
  (ρr:=(rJ hRel.sim hS).low Fr (own3 V.heap.size) (V.heap.size+5) true htr) (ρs:=(Ap hRel.sim hS).low Fs (fun _=>False) (V.heap.size+5) false hts) (fun gs2 sl2 t2 q2 d k hk0 hg0 hgk hL2 hP2=>?_) gs1 sl1 t1 q1 d2 h1 hL1 (by rw [ew];exact hP1)
 have O:tN Tryz.prog (phD (Ends Yq.prog f0 R) Gf Fs Fr L V.heap.size W.heap.size k (fr::cs,fr'::cs') ρ.rel {frame:=Frame.enter Yq.prog 69 #[lV l,.int .i64 pn] .normal,callers:=fr::cs,status:=.running,dying:=none} V U) Post:=
  EG E hk0 (fun v hv=>qv (hPre.item l L V hp v hv)) (fun h V hT=>by obtain ⟨_,_,_,_,_,_,_,rfl,-⟩:=hT;simp) hRel.gid hRel.ext hRel.same hS hBM hRel.out.2.2.2.2 hX hlen (fun h V2 hl=>hsolo h V2 (by rw [E.alt] at hl ⊢;exact hl))
 have hchA:∀c,(c=V.heap.size+5\/∃b o,ρ c b/\V.heap[c]?=some o/\o.isChan=true)->∃o,V4.heap[c]?=some o/\o.isChan=true:=fun c h=>by
  rcases h with rfl|⟨b,o,h1,h2,h3⟩
  ·exact ⟨_,hV5,rfl⟩
  ·exact ⟨o,(hVold c b h1).trans h2,h3⟩
 have SA:br (ρ.plus V.heap.size W.heap.size (fun i=>i<7) (fun _ _ h=>hRel.sim.lt h) (fun c=>c=V.heap.size+5\/∃b o,ρ c b/\V.heap[c]?=some o/\o.isChan=true) hS) V4 ((bF W {l with root:=r'} 20).at d):=
  oL hRel.sim hS hr (fun i h=>h) (by omega) hVold (fun i h h5=>hV7 _ (by omega) (by omega)) ⟨_,_,_,_,_,hV5⟩ hos4 hchA d
 have prA:∀i,i<7->(ρ.plus V.heap.size W.heap.size (fun i=>i<7) (fun _ _ h=>hRel.sim.lt h) (fun c=>c=V.heap.size+5\/∃b o,ρ c b/\V.heap[c]?=some o/\o.isChan=true) hS) (V.heap.size+i) (W.heap.size+i):=fun i h=>lq h
 generalize hρA:ρ.plus V.heap.size W.heap.size (fun i=>i<7) (fun _ _ h=>hRel.sim.lt h) (fun c=>c=V.heap.size+5\/∃b o,ρ c b/\V.heap[c]?=some o/\o.isChan=true) hS=ρA at SA prA;have hFA:ρA.F=Gf:=by subst hρA;exact hRel.same
 have hAinv:∀a b,ρA a b->ρ a b\/∃i,i<7/\a=V.heap.size+i/\b=W.heap.size+i:=fun a b h=>by subst hρA;exact h
 have hAsub:∀a b,ρ a b->ρA a b:=fun a b h=>by subst hρA;exact .inl h
 have hrA:RAo ρA l.root r':=by
  generalize l.root=x at hr;cases hr with
  |none=>exact .none
  |some h=>exact .some ⟨hAsub _ _ h.1,h.2⟩
 have RR:nc (phD (Ends Yq.prog f0 R) Gf Fs Fr L V.heap.size W.heap.size k (fr::cs,fr'::cs') ρ.rel {frame:=Frame.enter Yq.prog 69 #[lV l,.int .i64 pn] .normal,callers:=fr::cs,status:=.running,dying:=none} V U) ρA ((rJ hRel.sim hS).low Fr (own3 V.heap.size) (V.heap.size+5) true htr) ((bF W {l with root:=r'} 20).at d) {frame:=pF2 V.heap.size l pn (V.heap.size+5),callers:=fr::cs,status:=.running,dying:=none} (G (pF2 V.heap.size l pn (V.heap.size+5)) [trap Yq.prog]) (G (pF2 W.heap.size {l with root:=r'} pn (W.heap.size+5)) (fr'::cs')) V4 Vr L:=by
  refine ⟨⟨⟨sC (P:=Tryz.prog) (σ:=ρA) (prA 0 (by omega)) (prA 1 (by omega)) (prA 2 (by omega)) (prA 5 (by omega)) hrA (by rw [hFA];exact E.okG),.base,⟨fun _=>rfl,fun _=>rfl⟩,⟨rfl,rfl⟩,⟨rfl,rfl⟩,rfl,rfl⟩,SA,?_,by rw [hFA,<-hRel.same];exact hRel.ext,⟨by rw [hFA,<-hRel.same];exact hS,by rw [hFA,<-hRel.same];exact hBM⟩,by subst hρA;exact ⟨rfl,rfl⟩,by subst hρA;exact .inl rfl,prA 5 (by omega),⟨_,_,_,_,_,hV5,rfl⟩⟩,hSide.stays rfl (fun _ _ _ _=>rfl) rfl,honly,fun x h=>h,⟨E.rmk,rfl⟩,⟨hAsub,hFA⟩,fun a b o hab ho hc=>?_,fun a b hch hab hne=>?_⟩
  ·have hg:=hRel.gid;subst hρA;exact ⟨fun g h=>.inl (hg.glob g h),hg.prog,hg.code,hg.alt,fun _ _ h=>h,hg.same,hg.size,hg.apart⟩
  ·have hch:(a=V.heap.size+5\/∃b o,ρ a b/\V.heap[a]?=some o/\o.isChan=true):=by
    rcases hAinv a b hab with h|⟨i,hi,rfl,rfl⟩
    ·exact .inr ⟨b,o,h,by rw [<-hVold a b h];exact ho,hc⟩
    ·by_cases h5:i=5
     ·subst h5;exact .inl rfl
     ·exfalso;rw [hV7 _ (by omega) (by omega),bI V l 1000 i hi] at ho;rcases i with - | - | - | - | - | - | - |i;all_goals first|omega|(cases ho;cases hc)
   subst hρA;exact hch
  ·have hne:a≠V.heap.size+5:=hne;have hch:(a=V.heap.size+5\/∃b o,ρ a b/\V.heap[a]?=some o/\o.isChan=true):=by subst hρA;exact hch
   rcases hch with h|⟨b2,o,h1,h2,h3⟩
   ·exact absurd h hne
   ·obtain rfl:b2=b:=ρA.fn _ _ _ (hAsub _ _ h1) hab;obtain ⟨n1,s1,q1',tm1,rfl⟩:=hRel.quiet.2 a b2 o h1 h2 h3;obtain ⟨o1,o2,e1,e2,e3⟩:=hRel.sim.obj a b2 h1;rw [h2] at e1;cases e1;cases e3 with
    | @chan _ cap' _ b' _ cl' _ _ s' q' _ hb hcl=>
     have hb:RVs ρ #[] b':=hb.resolve_left (by rw [hRel.firm.1];exact fun h=>by cases h);obtain rfl:=hcl.resolve_left (by rw [hRel.firm.2];exact fun h=>by cases h);obtain rfl:b'=#[]:=Array.eq_empty_of_size_eq_zero (by rw [<-hb.size];rfl);exact ⟨_,_,_,_,_,_,_,(hVold a b2 h1).trans h2,(dP W _ 20 (hRel.sim.lt h1).2).trans e2⟩
 have hrinv:∀a b,((rJ hRel.sim hS).low Fr (own3 V.heap.size) (V.heap.size+5) true htr) a b->ρ a b\/∃i,i<7/\a=V.heap.size+i/\b=W.heap.size+i:=fun a b h=>h
 have hsinv:∀a b,((Ap hRel.sim hS).low Fs (fun _=>False) (V.heap.size+5) false hts) a b->ρ a b\/∃i,(3<=i/\i<7)/\a=V.heap.size+i/\b=W.heap.size+i:=fun a b h=>h
 have same:∀x y b,(ρ x b\/∃i,i<7/\x=V.heap.size+i/\b=W.heap.size+i)->(ρ y b\/∃i,(3<=i/\i<7)/\y=V.heap.size+i/\b=W.heap.size+i)->x=y/\¬own3 V.heap.size y:=fun x y b h1 h2=>by
  rcases h1 with h1|⟨i,hi,h1,h3⟩<;>rcases h2 with h2|⟨j,hj,h2,h4⟩
  ·have:=(hRel.sim.lt h2).1;exact ⟨ρ.inj _ _ _ h1 h2,fun h=>by rcases h with h|h|h<;>omega⟩
  ·have:=(hRel.sim.lt h1).2;omega
  ·have:=(hRel.sim.lt h2).2;omega
  ·exact ⟨by omega,fun h=>by rcases h with h|h|h<;>omega⟩
 have hpr:((rJ hRel.sim hS).low Fr (own3 V.heap.size) (V.heap.size+5) true htr) (V.heap.size+6) (W.heap.size+6):=.inr ⟨6,by omega,rfl,rfl⟩;have hDs':Dem Tryz.prog.alt (phD (Ends Yq.prog f0 R) Gf Fs Fr L V.heap.size W.heap.size k (fr::cs,fr'::cs') ρ.rel {frame:=Frame.enter Yq.prog 69 #[lV l,.int .i64 pn] .normal,callers:=fr::cs,status:=.running,dying:=none} V U).Ns (phD (Ends Yq.prog f0 R) Gf Fs Fr L V.heap.size W.heap.size k (fr::cs,fr'::cs') ρ.rel {frame:=Frame.enter Yq.prog 69 #[lV l,.int .i64 pn] .normal,callers:=fr::cs,status:=.running,dying:=none} V U).Ts (Ej V.heap.size) Vs:=by rw [E.alt];exact hDs
 have hDr':Dem Tryz.prog.alt (phD (Ends Yq.prog f0 R) Gf Fs Fr L V.heap.size W.heap.size k (fr::cs,fr'::cs') ρ.rel {frame:=Frame.enter Yq.prog 69 #[lV l,.int .i64 pn] .normal,callers:=fr::cs,status:=.running,dying:=none} V U).Nr (phD (Ends Yq.prog f0 R) Gf Fs Fr L V.heap.size W.heap.size k (fr::cs,fr'::cs') ρ.rel {frame:=Frame.enter Yq.prog 69 #[lV l,.int .i64 pn] .normal,callers:=fr::cs,status:=.running,dying:=none} V U).Tr (G (pF2 V.heap.size l pn (V.heap.size+5)) [trap Yq.prog]) Vr:=by rw [E.alt];exact hDr
 refine Cf O hDr' _ _ hDs' gs2 ((bF W {l with root:=r'} 20).at d) sl2 t2 q2 ρA _ _ _ _ L [] [] [] 20 0 0 false 14 2
  (.pre 12 RR (by rw [E.alt];exact hDh) (by rw [E.alt];exact hpath) ⟨⟨_,hpr,fun h=>?_⟩,?_⟩ (sB W.heap.size (W.heap.size+3) {l with root:=r'} pn (fr'::cs') ((bF W {l with root:=r'} 20).at d) r' (iJ W {l with root:=r'} 20).out))
  (.new (hSnd.stays rfl (fun _ _ _ _=>rfl) rfl) (fun v=>xS W.heap.size v) rfl) ⟨_,cT W {l with root:=r'} 20,rfl⟩ (by omega) rfl rfl ?_ ?_ hg0 hgk hL2 hP2
 ·have h:V.heap.size+6=V.heap.size+5:=h;omega
 ·show W.heap.size+6≠W.heap.size+5;omega
 ·intro b x y hx hy;obtain ⟨rfl,ho⟩:=same x y b (hrinv _ _ hx) (hsinv _ _ hy);by_cases h5:x=V.heap.size+5
  ·exact .inr ⟨h5,h5⟩
  ·exact .inl ⟨⟨⟨b,hx⟩,ho,h5⟩,⟨b,hy⟩,(fun h=>h),h5⟩
 ·have hko:∀i,¬U.Ko (W.heap.size+i):=fun i h=>by
   have:=U.lt _ h;have:=hRel.out.1.1;omega
  have hoff:∀a b,(ρ a b\/∃i,i<7/\a=V.heap.size+i/\b=W.heap.size+i)->¬U.Ko b:=fun a b h=>by
   rcases h with h|⟨i,-,-,rfl⟩
   ·exact hRel.out.2.1 a b h
   ·exact hko i
  refine ⟨fun b x y hx hy=>?_,⟨⟨?_,?_,fun b hb=>?_⟩,⟨fun a b h=>hoff a b (hAinv a b h),fun a b h=>hAsub a b (hRel.out.2.2.1 a b h),by rw [<-hρA];exact hRel.out.2.2.2⟩,⟨fun a b h=>hoff a b (hrinv a b h),fun a b h=>.inl (hRel.out.2.2.1 a b h),hRel.out.2.2.2⟩,hko 5⟩,⟨fun a b h=>hoff a b ((hsinv a b h).imp id (fun ⟨i,h1,h2⟩=>⟨i,h1.2,h2⟩)),fun a b h=>.inl (hRel.out.2.2.1 a b h),hRel.out.2.2.2⟩⟩
  ·by_cases h5:y=V.heap.size+5
   ·exact .inr h5
   ·exact .inl ⟨⟨b,hy⟩,(fun h=>h),h5⟩
  ·have:=hRel.out.1.1;show U.W0.heap.size<=(bF W {l with root:=r'} 20).heap.size;rw [ew];omega
  ·exact hRel.out.1.2.1
  ·have h1:=U.lt b hb;have h2:=hRel.out.1.1;exact (dP W {l with root:=r'} 20 (by omega)).trans (hRel.out.1.2.2 b hb)
end
end
