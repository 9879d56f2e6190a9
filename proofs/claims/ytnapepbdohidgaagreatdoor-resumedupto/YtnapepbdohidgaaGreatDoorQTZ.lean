/- For all scripts of bounded bulk: shelfkeep.Resumed returns true on every schedule, without a race, and leaves its arguments as they were: what is saved, loaded elsewhere, behind anything, goes on as if it had gone on. Its condition: what the arguments hold together is of bulk at most 1048576 (the given second form; for scripts too great for any machine the law's own appends pass the greatest slice); the three listed tables of the library read as the program's text lays them (tied). -/
import Derived.Test.YtnapepbdohidgaaGreatDoorQT20
import Derived.Test.YtnapepbdohidgaaGreatDoorCards
import Derived.Test.YtnapepbdohidgaaGreatDoorTie
set_option maxHeartbeats 4000000
set_option maxRecDepth 100000
namespace Go.Proofs.YtnapepbdohidgaaGreatDoor
section
open Go
open Go.ChangeShapes Go.WideShapes Go.ChangeAt Go.RowKit
open Go.Proofs.Qw
theorem wD (os:Os)(args:Array Value):laidMetH Tryz.prog Rows.resumedUptoRow.laid ((World.doorLaid Tryz.prog 400 os).forCall (fun _ _=>0) ⟨#[],args,[]⟩).memory:=
 laidMetH_of_parts3 (fuel:=8) (laidMet_of_run' 8 (by kernel_rfl) (by kernel_rfl)) (by kernel_rfl) (by kernel_rfl)
theorem oZ (os:Os)(b:os.Started)(H:Type)(c:TypeId×Value->H):
  ReturnsInLeavingWide {} Tryz.checked os 13 .any (fun w args=>((Rows.OpenSpec.upto Rows.resumedSpec).pre c Tryz.prog Tryz.f13 [] false w args/\laidMetH Tryz.prog Rows.resumedUptoRow.laid w)/\sizedMet c Tryz.prog Tryz.f13 (Rows.OpenSpec.upto Rows.resumedSpec) false w args)
   (Rows.resumedSpec.post c Tryz.prog Tryz.f13 false true false false):=by
 refine Co b Tryz.func13 (World.doorLaid Tryz.prog 400 os) #[.slice none 0 0,.slice none 0 0,.slice none 0 0] rfl (World.shaped_of_RefB (by kernel_rfl) (by kernel_rfl)) (by kernel_rfl) (by kernel_rfl) (by kernel_rfl) (wD os _) ?_;intro W base args y gs before l a s hsz n hx;have hW':=s;obtain ⟨p,q,hA,z,rfl,-,-⟩:=s;have hA:DataW.TrodAll c Tryz.prog W 0 (fun _=>true) true Tryz.f13.params.toList args.toList y p:=hA;rw [Tryz.params13] at hA a hsz;obtain ⟨v0,l0,d0,ds0,p0,q0,k,rfl,rfl,h0,hA⟩:=trodAll_cons hA;obtain ⟨v1,l1,d1,ds1,p1,q1,rfl,rfl,rfl,h1,hA⟩:=trodAll_cons hA;obtain ⟨v2,l2,d2,ds2,p2,q2,rfl,rfl,rfl,h2,hA⟩:=trodAll_cons hA;obtain ⟨rfl,rfl,rfl⟩:=trodAll_nil hA;obtain rfl:args=#[v0,v1,v2]:=Array.toList_inj.1 k;obtain ⟨rfl,rfl⟩:=trodVars_none z;obtain ⟨a0,r,c0,ops0,rfl,hS0,i,-⟩:=ow (a 0 22 v0 rfl rfl) h0 (fun elems spare he=>by
  have:=sized_slice hsz (j:=0) (t:=22) (e:=31) (elems:=elems) (spare:=spare) rfl (by simpa using he) Tryz.underlying22;rw [rm] at this;simp only [reachBytes] at this;omega)
 obtain ⟨A,u,c1,ops1,rfl,o,f,-⟩:=ow (a 1 22 v1 rfl rfl) h1 (fun elems spare he=>by
  have:=sized_slice hsz (j:=1) (t:=22) (e:=31) (elems:=elems) (spare:=spare) rfl (by simpa using he) Tryz.underlying22;rw [rm] at this;simp only [reachBytes] at this;omega)
 obtain ⟨a2,n2,c2,ops2,rfl,m,hr2,-⟩:=ow (a 2 22 v2 rfl rfl) h2 (fun elems spare he=>by
  have:=sized_slice hsz (j:=2) (t:=22) (e:=31) (elems:=elems) (spare:=spare) rfl (by simpa using he) Tryz.underlying22;rw [rm] at this;simp only [reachBytes] at this;omega)
 have d:r+u+n2<=1048576:=by
  have e0:=rD h0;have e1:=rD h1;have e2:=rD h2;have hb:=of_decide_eq_true n;simp only [List.append_nil,Rows.uptoBulkAll] at hb;omega
 have hlt:∀x∈p0++(p1++(p2++[])),x.block<W.heap.size:=fun x hx=>hW'.lt x (by simpa using hx)
 refine DJ (wC a0 A a2 r c0 u c1 n2 c2 ops0 ops1 ops2 W l (DI hx) hS0 o m i f hr2 d) ?_;rintro v W' ⟨rfl,hl⟩;refine ⟨_,_,_,[],p0++(p1++(p2++[])),[],hW',?_,?_,rfl,hl.frame _,fun h=>by cases h⟩
 .exact trodAll_mk1 (shut_bool Tryz.underlying4 true)
 .exact trodAll_cons_mk (hl.trod rl (by kernel_rfl) (of_decide_eq_true (by kernel_rfl)) h0 (fun x hx=>hlt x (by simp [hx]))) (trodAll_cons_mk (hl.trod rl (by kernel_rfl) (of_decide_eq_true (by kernel_rfl)) h1 (fun x hx=>hlt x (by simp [hx]))) (trodAll_cons_mk (hl.trod rl (by kernel_rfl) (of_decide_eq_true (by kernel_rfl)) h2 (fun x hx=>hlt x (by simp [hx]))) trodAll_mk0))
theorem resumed_row:Rows.ResumedUptoSaid:=by
 unfold Rows.ResumedUptoSaid OpenClaim.holds;refine ⟨by kernel_rfl,by kernel_rfl,by kernel_rfl,by kernel_rfl,by kernel_rfl,by kernel_rfl,?_,?_,13,Tryz.f13,by kernel_rfl,Tryz.func13,?_,?_,by kernel_rfl,?_,?_,by kernel_rfl,?_,by kernel_rfl,by kernel_rfl,by kernel_rfl,by kernel_rfl,by kernel_rfl,?_⟩
 .show Tryz.prog.mayEnter=true;kernel_rfl
 .exact ⟨rfl,rfl,rfl,rfl,rfl,rfl,rfl⟩
 .have h1:(Tryz.f13.params.all fun t=>Tryz.prog.readableRec t)=true:=by kernel_rfl
  have h2:(Tryz.f13.resultTypes.all fun t=>Tryz.prog.readableRec t&&decide (t<Tryz.prog.types.size))=true:=by kernel_rfl
  refine ⟨fun t ht=>Array.all_eq_true_iff_forall_mem.1 h1 t ht,fun t ht=>?_⟩;have:=Array.all_eq_true_iff_forall_mem.1 h2 t ht;rw [bT] at this;exact ⟨this.1,of_decide_eq_true this.2⟩
 .exact fun h=>by cases h
 .exact of_decide_eq_true (by kernel_rfl)
 .unfold Func.isWrapper;first|(rw [if_pos (by decide +kernel)];kernel_rfl)|(rw [if_neg (by decide +kernel)];exact ⟨rfl,rfl⟩)
 .exact ⟨by kernel_rfl,by kernel_rfl,by kernel_rfl⟩
 .have hq:∀os:Os,Stop.quiet Tryz.pinned.checked.prog os:=fun os k hk=>by
   have e:Tryz.pinned.checked.prog.stopKnobs=[]:=by kernel_rfl
   rw [e] at hk;cases hk
  refine ⟨⟨by kernel_rfl,by kernel_rfl,by kernel_rfl⟩,⟨by kernel_rfl,by kernel_rfl⟩,⟨by kernel_rfl,by kernel_rfl,by kernel_rfl,by kernel_rfl⟩,⟨by kernel_rfl,by kernel_rfl,by kernel_rfl,by kernel_rfl⟩,by kernel_rfl,fun n hn=>((List.not_mem_nil:¬n∈[]) hn).elim,⟨_,(WideRow.started_initial),hq _⟩,[],rfl,fun os st _ H a _=>?_⟩;rw [OpenClaim.post_not_still (c:=Rows.resumedUptoRow) rfl];intro F;exact oZ os st H a (show Tryz.prog.mayEnter=true by kernel_rfl)
theorem resumed_holds:Rows.ResumedUptoCardSaid:=by
 refine ⟨Claim7.tied_new_at .later [.data,.data,.data] true (Claim7.new_of_sixth resumed_row Rows.resumedUptoCard.stood.harness false rfl ⟨rfl,rfl⟩ (by kernel_rfl) (by kernel_rfl) ?_) (by kernel_rfl),(fun D hD=>by cases hD),resumedUpto_row_tie,(fun h=>by cases h),by kernel_rfl⟩;intro f fn hf hfn
 obtain rfl : f = 13 := oJ ((show Tryz.prog.funcNamed "shelf/shelfkeep.Resumed" = some 13 by kernel_rfl).symm.trans hf) |>.symm
 obtain rfl:fn=Tryz.f13:=(oJ (Tryz.func13.symm.trans hfn)).symm;exact ⟨by kernel_rfl,fun j t ht=>by
  rw [Tryz.params13] at ht;have hm:t∈[22,22,22]:=by simpa using Array.mem_of_getElem? ht
  have hall:([22,22,22].all fun u=>!Tryz.prog.wantsStandIn u)=true:=by kernel_rfl
  exact (show Tryz.prog.wantsStandIn t=false by simpa using List.all_eq_true.1 hall t hm)⟩
end
