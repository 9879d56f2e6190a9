/- For every script: shelflaw.Runs returns true on every schedule, without a race, and leaves its argument as it was: every script of PUT, GET, GETV, DROP, DROPV, LIST, VERS, NEXT, TICK, STATS, SAVE, and LOAD of what was saved in it, is answered as the document says (a LOAD of anything else is turned into a TICK of nothing). No condition beyond the row's own: the tables of the library start as the program's text lays them (laid); that nothing else writes them is the translator's report. -/
import Derived.Test.YtenhoolepfelcaaGreatDoorQP26
import Derived.Test.YtenhoolepfelcaaGreatDoorCards
import Derived.Test.YtenhoolepfelcaaGreatDoorTie
set_option maxHeartbeats 4000000
set_option maxRecDepth 100000
namespace Go.Proofs.YtenhoolepfelcaaGreatDoor
section
open Go
open Go.ChangeShapes Go.WideShapes Go.ChangeAt Go.RowKit
open Go.Proofs.Qw
theorem qw {a:Type}{P:Program}{e:TypeId}{b:Nat}{d:DataW a}:∀ {l:List (DataW a)},d∈l->b∈d.weights P e->b∈DataW.weightsAll P e l
 |x::r,h,hb=>by
  unfold DataW.weightsAll;rcases List.mem_cons.1 h with rfl|h
  .exact List.mem_append_left _ hb
  .exact List.mem_append_right _ (qw h hb)
theorem It {c:Type}{P:TypeId×Value->c}{W:World}{u:Nat}{a0:Option Addr}{v r:Nat}{x:DataW c×List MemPlace}(h:DataW.trod P Tryz.prog W 0 (λ_=>true) true u 22 [.slice a0 v r]=some x)(hw:∀b∈x.1.weights Tryz.prog 22,b<=reachBytes){f:List OpD}(hS:jC W (.slice a0 v r) f):∀o∈f,o.eQ.size<=reachBytes:=by
 intro o ho;obtain ⟨i,X,rfl⟩:=gM ho;have B:f≠[]:=by intro e;subst e;simp at X
 have ⟨a',p,he,hx⟩:=hS.form;obtain ⟨b,off,rfl,F⟩:=hx B;have c3:=(F i X).2.2.2.1;cases he;rcases Go.Deep.open_slice Tryz.underlying22 h with ⟨k,_⟩|⟨a,len',p,m,n,D,Pl,k,_,hlc,hcm,hm,z,q⟩
 .simp at k
 .simp only [List.cons.injEq,Value.slice.injEq,oI,and_true] at k;obtain ⟨rfl,rfl,rfl⟩:=k;simp only [if_true] at hm;subst hm;rw [tF] at q;have ⟨T,h1,h2⟩:=q i (by omega);obtain ⟨V,n',-,A,hl,G,hf⟩:=DataW.trod_struct Tryz.underlying30 h2;have ⟨_,_,h3⟩:=World.cells?_some h1;have t3:=hf 3 _ rfl;obtain ⟨y3,e3⟩:∃y,V[3]?=some y:=⟨V[3]'(by rw [G];decide),eL _⟩;rw [e3] at t3;obtain ⟨s,hs,hy,-⟩:=DataW.trod_string Tryz.underlying9 t3;have L:=h3 3 (by omega);rw [Addr.add_lit,Addr.add_lit,c3] at L;have R:s=f[i].eQ:=by
   have e:T[3]?=some (.string s):=by
    have:=congrArg (λl:List Value=>l[0]?) hs;simp only [List.getElem?_take,List.getElem?_drop] at this;simp at this;exact this.2
   rw [e] at L;simpa using L.s
  rw [<-R];have hb:s.data.toList.length∈(D i).weights Tryz.prog 30:=by
   have hD:D i=.agg (V.map (·.1)):=congrArg Prod.fst A;rw [hD];unfold DataW.weights;rw [Tryz.underlying30];refine DataW.weights_mem_each (j:=3) (t:=9) rfl (d:=.lit (.string s.data.toList)) ?_ _ (by simp [DataW.weights]);rw [List.getElem?_map,e3,hy];rfl
  have:=hw _ (by
   rw [z];unfold DataW.weights;rw [Tryz.underlying22];exact List.mem_cons_of_mem _ (List.mem_append_left _ (qw (List.mem_map.2 ⟨i,List.mem_range.2 X,rfl⟩) hb)))
  simpa using this
theorem Iu (b:Os)(a:Array Value):laidMetH Tryz.prog Rows.runsRow.laid ((World.doorLaid Tryz.prog 400 b).forCall (λ_ _=>0) ⟨#[],a,[]⟩).memory:=
 laidMetH_of_parts3 (fuel:=8) (laidMet_of_run' 8 (by kernel_rfl) (by kernel_rfl)) (by kernel_rfl) (by kernel_rfl)
theorem runs_lifted (s:Os)(i:s.Started)(a:Type)(f:TypeId×Value->a):
  ReturnsInLeavingWide {} Tryz.checked s 3 .any (λw c=>(Rows.runsSpec.pre f Tryz.prog Tryz.f3 [] false w c/\laidMetH Tryz.prog Rows.runsRow.laid w)/\sizedMet f Tryz.prog Tryz.f3 (OpenSpec.ofChange Rows.runsSpec) false w c)
   (Rows.runsSpec.post f Tryz.prog Tryz.f3 false true false false):=by
 refine J9 i Tryz.func3 (ChangeSpec.witness_shaped (enc:=f) (C:=Tryz.checked) (os:=s) (X:=λw _=>laidMetH Tryz.prog Rows.runsRow.laid w) false (World.doorLaid Tryz.prog 400 s) #[.slice none 0 0] 8 rfl (World.shaped_of_RefB (by kernel_rfl) (by kernel_rfl)) (by kernel_rfl) (by kernel_rfl) (by kernel_rfl) (Iu s _)) ?_;intro W base c ds gs before P k V n z;have y:=V;obtain ⟨p,q,r,hV,rfl,-,-⟩:=V;have r:DataW.TrodAll f Tryz.prog W 0 (λ_=>true) true Tryz.f3.params.toList c.toList ds p:=r;rw [Tryz.params3] at r k n;obtain ⟨v0,l0,d0,ds0,R,q0,G,rfl,rfl,D,r⟩:=trodAll_cons r;obtain ⟨rfl,rfl,rfl⟩:=trodAll_nil r;obtain rfl:c=#[v0]:=Array.toList_inj.1 G;obtain ⟨rfl,rfl⟩:=trodVars_none hV;obtain ⟨a0,n0,c0,u,rfl,hS,F,T⟩:=DR (k 0 22 v0 rfl rfl) D (λl m he=>by
  have:=sized_slice n (j:=0) (t:=22) (e:=30) (elems:=l) (spare:=m) rfl (by simpa using he) Tryz.underlying22;rw [GZ] at this;simp only [reachBytes] at this;omega)
 have hd:∀o∈u,o.eQ.size<=140737488351232:=λo ho=>by
  obtain ⟨A,hf⟩:=D;have L:DataW.trod f Tryz.prog W 0 (λ_=>true) true A 22 [.slice a0 n0 c0]=some (d0,R):=by simpa [Value.cells] using hf
  have:=It L (λb hb=>by
   have:=List.all_eq_true.1 n _ (DataW.weights_mem_each (j:=0) (t:=22) rfl (d:=d0) rfl b hb);simpa using this) hS o ho
  simp only [reachBytes] at this;omega
 have B:∀x∈R++[],x.block<W.heap.size:=λx z=>y.lt x (by simpa using z)
 refine G2 (Is a0 n0 c0 u W P (G1 z) hS F hd T) ?_;rintro v W' ⟨rfl,hl⟩;refine ⟨_,_,_,[],R++[],[],y,?_,?_,rfl,hl.frame _,λh=>by cases h⟩
 .exact trodAll_mk1 (shut_bool Tryz.underlying4 true)
 .exact trodAll_cons_mk (hl.trod GY (by kernel_rfl) (of_decide_eq_true (by kernel_rfl)) D (λx z=>B x (by simp [z]))) trodAll_mk0
theorem runs_row:Rows.RunsSaid:=
 OpenClaim.holds_of_wide_leaving 3 Tryz.f3 rfl rfl rfl rfl rfl rfl rfl ⟨rfl,rfl,rfl,rfl,rfl⟩ rfl rfl rfl rfl rfl (by kernel_rfl) Tryz.func3 (by kernel_rfl)
  (of_decide_eq_true (by kernel_rfl)) (by unfold Func.isWrapper;first|(rw [if_pos (by decide +kernel)];kernel_rfl)|(rw [if_neg (by decide +kernel)];exact ⟨rfl,rfl⟩))
  (λd b a c _=>runs_lifted d b a c)
theorem runs_holds:Rows.RunsCardSaid:=by
 refine ⟨Claim7.tied_new_at .later [.data,.data,.data] true (Claim7.new_of_sixth runs_row Rows.runsCard.stood.harness false rfl ⟨rfl,rfl⟩ (by kernel_rfl) (by kernel_rfl) ?_) (by kernel_rfl),(λD hD=>by cases hD),runs_row_tie,(λh=>by cases h),by kernel_rfl⟩;intro f fn hf hfn
 obtain rfl : f = 3 := oJ ((show Tryz.prog.funcNamed "shelf/shelflaw.Runs" = some 3 by kernel_rfl).s.t hf) |>.s
 obtain rfl:fn=Tryz.f3:=(oJ (Tryz.func3.s.t hfn)).s;exact ⟨by kernel_rfl,λj t ht=>by
  rw [Tryz.params3] at ht;have hm:t∈[22]:=by simpa using Array.mem_of_getElem? ht
  have hall:([22].all λu=>!Tryz.prog.wantsStandIn u)=true:=by kernel_rfl
  exact (show Tryz.prog.wantsStandIn t=false by simpa using List.all_eq_true.1 hall t hm)⟩
end
