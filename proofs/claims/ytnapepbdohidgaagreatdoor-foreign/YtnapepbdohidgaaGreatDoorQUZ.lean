/- For all scripts and texts: shelfkeep.Foreign returns true on every schedule, without a race, and leaves its arguments as they were: any bytes are refused, and nothing changes, the open listings neither; or taken, and SAVE answers them. No condition beyond the row's own: every script within the form's own reach; the three listed tables of the library read as the program's text lays them (tied). -/
import Derived.Test.YtnapepbdohidgaaGreatDoorQU24
import Derived.Test.YtnapepbdohidgaaGreatDoorCards
import Derived.Test.YtnapepbdohidgaaGreatDoorTie
set_option maxHeartbeats 4000000
set_option maxRecDepth 100000
namespace Go.Proofs.YtnapepbdohidgaaGreatDoor
section
open Go
open Go.ChangeShapes Go.WideShapes Go.ChangeAt Go.RowKit
open Go.Proofs.Qw
theorem vu (os:Os)(args:Array Value):laidMetH Tryz.prog Rows.foreignRow.laid ((World.doorLaid Tryz.prog 400 os).forCall (fun _ _=>0) ⟨#[],args,[]⟩).memory:=
 laidMetH_of_parts3 (fuel:=8) (laidMet_of_run' 8 (by kernel_rfl) (by kernel_rfl)) (by kernel_rfl) (by kernel_rfl)
theorem om (os:Os)(started:os.Started)(H:Type)(enc:TypeId×Value->H):
  ReturnsInLeavingWide {} Tryz.checked os 14 .any (fun w args=>(Rows.foreignSpec.pre enc Tryz.prog Tryz.f14 [] false w args/\laidMetH Tryz.prog Rows.foreignRow.laid w)/\sizedMet enc Tryz.prog Tryz.f14 (OpenSpec.ofChange Rows.foreignSpec) false w args)
   (Rows.foreignSpec.post enc Tryz.prog Tryz.f14 false true false false):=by
 refine EZ started Tryz.func14 (ChangeSpec.witness_shaped (enc:=enc) (C:=Tryz.checked) (os:=os) (X:=fun w _=>laidMetH Tryz.prog Rows.foreignRow.laid w) false (World.doorLaid Tryz.prog 400 os) #[.slice none 0 0,.string ⟨#[]⟩] 8 rfl (World.shaped_of_RefB (by kernel_rfl) (by kernel_rfl)) (by kernel_rfl) (by kernel_rfl) (by kernel_rfl) (vu os _)) ?_;intro W base args ds gs before hsh hval hW hsz hx;have hW':=hW;obtain ⟨p,q,hA,hV,rfl,-,-⟩:=hW;have hA:DataW.TrodAll enc Tryz.prog W 0 (fun _=>true) true Tryz.f14.params.toList args.toList ds p:=hA;rw [Tryz.params14] at hA hval hsz;obtain ⟨v0,l0,d0,ds0,p0,q0,ha0,rfl,rfl,h0,hA⟩:=trodAll_cons hA;obtain ⟨v1,l1,d1,ds1,p1,q1,rfl,rfl,rfl,h1,hA⟩:=trodAll_cons hA;obtain ⟨rfl,rfl,rfl⟩:=trodAll_nil hA;obtain rfl:args=#[v0,v1]:=Array.toList_inj.1 ha0;obtain ⟨rfl,rfl⟩:=trodVars_none hV;obtain ⟨key,rfl,rfl,rfl,wk⟩:=Go.ChangeMaps.open_string Tryz.underlying9 (hval 1 9 v1 rfl rfl) h1;obtain ⟨a0,n0,c0,ops,rfl,hS,hr0,hn0⟩:=AC (hval 0 22 v0 rfl rfl) h0 (fun elems spare he=>by
  have:=sized_slice hsz (j:=0) (t:=22) (e:=31) (elems:=elems) (spare:=spare) rfl (by simpa using he) Tryz.underlying22;rw [CN] at this;simp only [reachBytes] at this;omega)
 have hlt:∀x∈p0++([]++[]),x.block<W.heap.size:=fun x hx=>hW'.lt x (by simpa using hx)
 refine CQ (vt a0 n0 c0 ops key W hsh (CP hx) hS hr0 wk hn0) ?_;rintro v W' ⟨rfl,hl⟩;refine ⟨_,_,_,[],p0++([]++[]),[],hW',?_,?_,rfl,hl.frame _,fun h=>by cases h⟩
 .exact trodAll_mk1 (shut_bool Tryz.underlying4 true)
 .exact trodAll_cons_mk (hl.trod CM (by kernel_rfl) (of_decide_eq_true (by kernel_rfl)) h0 (fun x hx=>hlt x (by simp [hx]))) (trodAll_cons_mk (Go.ChangeMaps.shut_string Tryz.underlying9 wk) trodAll_mk0)
theorem foreign_row:Rows.ForeignSaid:=
 OpenClaim.holds_of_wide_leaving 14 Tryz.f14 rfl rfl rfl rfl rfl rfl rfl ⟨rfl,rfl,rfl,rfl,rfl⟩ rfl rfl rfl rfl rfl (by kernel_rfl) Tryz.func14 (by kernel_rfl)
  (of_decide_eq_true (by kernel_rfl)) (by unfold Func.isWrapper;first|(rw [if_pos (by decide +kernel)];kernel_rfl)|(rw [if_neg (by decide +kernel)];exact ⟨rfl,rfl⟩))
  (fun os started H enc _=>om os started H enc)
theorem foreign_holds:Rows.ForeignCardSaid:=by
 refine ⟨Claim7.tied_new_at .later [.data,.data,.data] true (Claim7.new_of_sixth foreign_row Rows.foreignCard.stood.harness false rfl ⟨rfl,rfl⟩ (by kernel_rfl) (by kernel_rfl) ?_) (by kernel_rfl),(fun D hD=>by cases hD),foreign_row_tie,(fun h=>by cases h),by kernel_rfl⟩;intro f fn hf hfn
 obtain rfl : f = 14 := oJ ((show Tryz.prog.funcNamed "shelf/shelfkeep.Foreign" = some 14 by kernel_rfl).symm.trans hf) |>.symm
 obtain rfl:fn=Tryz.f14:=(oJ (Tryz.func14.symm.trans hfn)).symm;exact ⟨by kernel_rfl,fun j t ht=>by
  rw [Tryz.params14] at ht;have hm:t∈[22,9]:=by simpa using Array.mem_of_getElem? ht
  have hall:([22,9].all fun u=>!Tryz.prog.wantsStandIn u)=true:=by kernel_rfl
  exact (show Tryz.prog.wantsStandIn t=false by simpa using List.all_eq_true.1 hall t hm)⟩
end
