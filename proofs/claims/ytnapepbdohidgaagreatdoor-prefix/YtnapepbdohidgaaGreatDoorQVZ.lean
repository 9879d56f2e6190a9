/- For all scripts and numbers: shelfkeep.Prefix returns true on every schedule, without a race, and leaves its arguments as they were: what is answered to the first steps is what is answered to them alone. No condition beyond the row's own: every script within the form's own reach; the three listed tables of the library read as the program's text lays them (tied). -/
import Derived.Test.YtnapepbdohidgaaGreatDoorQV27
import Derived.Test.YtnapepbdohidgaaGreatDoorCards
import Derived.Test.YtnapepbdohidgaaGreatDoorTie
set_option maxHeartbeats 4000000
set_option maxRecDepth 100000
namespace Go.Proofs.YtnapepbdohidgaaGreatDoor
section
open Go
open Go.ChangeShapes Go.WideShapes Go.ChangeAt Go.RowKit
open Go.Proofs.Qw
theorem FJ {H:Type}{enc:TypeId×Value->H}{W:World}{a:Option Addr}{len cap:Nat}{d:DataW H}{p:List MemPlace}(h:DataW.Trod enc Tryz.prog W 0 (fun _=>true) true 22 (.slice a len cap) d p)(hz:∀elems spare,d=.slice elems spare->(elems.length+spare.length) * 88<=140737488351232):len<=cap/\cap<=maxLen:=by
 obtain ⟨fuel,hf⟩:=h;have hf2:DataW.trod enc Tryz.prog W 0 (fun _=>true) true fuel 22 [.slice a len cap]=some (d,p):=by simpa [Value.cells] using hf
 obtain ⟨-,h1,h2,-⟩:=nB hf2 (fun elems spare he=>by have:=hz elems spare he;omega);exact ⟨h1,h2⟩
theorem ya (os:Os)(args:Array Value):laidMetH Tryz.prog Rows.prefixRow.laid ((World.doorLaid Tryz.prog 400 os).forCall (fun _ _=>0) ⟨#[],args,[]⟩).memory:=
 laidMetH_of_parts3 (fuel:=8) (laidMet_of_run' 8 (by kernel_rfl) (by kernel_rfl)) (by kernel_rfl) (by kernel_rfl)
theorem qk (os:Os)(started:os.Started)(H:Type)(enc:TypeId×Value->H):
  ReturnsInLeavingWide {} Tryz.checked os 5 .any (fun w args=>(Rows.prefixSpec.pre enc Tryz.prog Tryz.f5 [] false w args/\laidMetH Tryz.prog Rows.prefixRow.laid w)/\sizedMet enc Tryz.prog Tryz.f5 (OpenSpec.ofChange Rows.prefixSpec) false w args)
   (Rows.prefixSpec.post enc Tryz.prog Tryz.f5 false true false false):=by
 refine Ep started Tryz.func5 (ChangeSpec.witness_shaped (enc:=enc) (C:=Tryz.checked) (os:=os) (X:=fun w _=>laidMetH Tryz.prog Rows.prefixRow.laid w) false (World.doorLaid Tryz.prog 400 os) #[.slice none 0 0,.int .i64 0] 8 rfl (World.shaped_of_RefB (by kernel_rfl) (by kernel_rfl)) (by kernel_rfl) (by kernel_rfl) (by kernel_rfl) (ya os _)) ?_;intro W base args ds gs before hsh hval hW hsz hx;have hW':=hW;obtain ⟨p,q,hA,hV,rfl,-,-⟩:=hW;have hA:DataW.TrodAll enc Tryz.prog W 0 (fun _=>true) true Tryz.f5.params.toList args.toList ds p:=hA;rw [Tryz.params5] at hA hval hsz;obtain ⟨v0,l0,d0,ds0,p0,q0,ha0,rfl,rfl,h0,hA⟩:=trodAll_cons hA;obtain ⟨v1,l1,d1,ds1,p1,q1,rfl,rfl,rfl,h1,hA⟩:=trodAll_cons hA;obtain ⟨rfl,rfl,rfl⟩:=trodAll_nil hA;obtain rfl:args=#[v0,v1]:=Array.toList_inj.1 ha0;obtain ⟨rfl,rfl⟩:=trodVars_none hV;obtain ⟨n,rfl,rfl,rfl,wn⟩:=open_int Tryz.underlying3 (hval 1 3 v1 rfl rfl) h1;obtain ⟨a0,n0,c0,ops,rfl,hS,hr0,hn0⟩:=zN (hval 0 22 v0 rfl rfl) h0 (fun elems spare he=>by
  have:=sized_slice hsz (j:=0) (t:=22) (e:=31) (elems:=elems) (spare:=spare) rfl (by simpa using he) Tryz.underlying22;rw [vu] at this;simp only [reachBytes] at this;omega)
 have hc:=FJ h0 (fun elems spare he=>by
  have:=sized_slice hsz (j:=0) (t:=22) (e:=31) (elems:=elems) (spare:=spare) rfl (by simpa using he) Tryz.underlying22;rw [vu] at this;simp only [reachBytes] at this;omega)
 have hlt:∀x∈p0++([]++[]),x.block<W.heap.size:=fun x hx=>hW'.lt x (by simpa using hx)
 refine Cd (xZ a0 n0 c0 ops n W hsh (Cc hx) hS hr0 (Cb wn) hc hn0) ?_;rintro v W' ⟨rfl,hl⟩;refine ⟨_,_,_,[],p0++([]++[]),[],hW',?_,?_,rfl,hl.frame _,fun h=>by cases h⟩
 .exact trodAll_mk1 (shut_bool Tryz.underlying4 true)
 .exact trodAll_cons_mk (hl.trod B9 (by kernel_rfl) (of_decide_eq_true (by kernel_rfl)) h0 (fun x hx=>hlt x (by simp [hx]))) (trodAll_cons_mk (shut_int Tryz.underlying3 wn) trodAll_mk0)
theorem prefix_row:Rows.PrefixSaid:=
 OpenClaim.holds_of_wide_leaving 5 Tryz.f5 rfl rfl rfl rfl rfl rfl rfl ⟨rfl,rfl,rfl,rfl,rfl⟩ rfl rfl rfl rfl rfl (by kernel_rfl) Tryz.func5 (by kernel_rfl)
  (of_decide_eq_true (by kernel_rfl)) (by unfold Func.isWrapper;first|(rw [if_pos (by decide +kernel)];kernel_rfl)|(rw [if_neg (by decide +kernel)];exact ⟨rfl,rfl⟩))
  (fun os started H enc _=>qk os started H enc)
theorem prefix_holds:Rows.PrefixCardSaid:=by
 refine ⟨Claim7.tied_new_at .later [.data,.data,.data] true (Claim7.new_of_sixth prefix_row Rows.prefixCard.stood.harness false rfl ⟨rfl,rfl⟩ (by kernel_rfl) (by kernel_rfl) ?_) (by kernel_rfl),(fun D hD=>by cases hD),prefix_row_tie,(fun h=>by cases h),by kernel_rfl⟩;intro f fn hf hfn
 obtain rfl : f = 5 := oJ ((show Tryz.prog.funcNamed "shelf/shelfkeep.Prefix" = some 5 by kernel_rfl).symm.trans hf) |>.symm
 obtain rfl:fn=Tryz.f5:=(oJ (Tryz.func5.symm.trans hfn)).symm;exact ⟨by kernel_rfl,fun j t ht=>by
  rw [Tryz.params5] at ht;have hm:t∈[22,3]:=by simpa using Array.mem_of_getElem? ht
  have hall:([22,3].all fun u=>!Tryz.prog.wantsStandIn u)=true:=by kernel_rfl
  exact (show Tryz.prog.wantsStandIn t=false by simpa using List.all_eq_true.1 hall t hm)⟩
end
