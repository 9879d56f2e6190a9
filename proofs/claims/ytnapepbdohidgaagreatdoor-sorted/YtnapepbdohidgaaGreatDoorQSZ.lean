/- For all scripts, texts and numbers: shelfkeep.Sorted returns true on every schedule, without a race, and leaves its arguments as they were: the first page of any listing is sorted, no item twice, each as the document says. No condition beyond the row's own: every script within the form's own reach; the three listed tables of the library read as the program's text lays them (tied). -/
import Derived.Test.YtnapepbdohidgaaGreatDoorQS36
import Derived.Test.YtnapepbdohidgaaGreatDoorCards
import Derived.Test.YtnapepbdohidgaaGreatDoorTie
set_option maxHeartbeats 4000000
set_option maxRecDepth 100000
namespace Go.Proofs.YtnapepbdohidgaaGreatDoor
section
open Go
open Go.ChangeShapes Go.WideShapes Go.ChangeAt Go.RowKit
open Go.Proofs.Qw
theorem xY (os:Os)(args:Array Value):laidMetH Tryz.prog Rows.sortedRow.laid ((World.doorLaid Tryz.prog 400 os).forCall (fun _ _=>0) ⟨#[],args,[]⟩).memory:=
 laidMetH_of_parts3 (fuel:=8) (laidMet_of_run' 8 (by kernel_rfl) (by kernel_rfl)) (by kernel_rfl) (by kernel_rfl)
theorem qk (os:Os)(started:os.Started)(H:Type)(enc:TypeId×Value->H):
  ReturnsInLeavingWide {} Tryz.checked os 7 .any (fun w args=>(Rows.sortedSpec.pre enc Tryz.prog Tryz.f7 [] false w args/\laidMetH Tryz.prog Rows.sortedRow.laid w)/\sizedMet enc Tryz.prog Tryz.f7 (OpenSpec.ofChange Rows.sortedSpec) false w args)
   (Rows.sortedSpec.post enc Tryz.prog Tryz.f7 false true false false):=by
 refine Eb started Tryz.func7 (ChangeSpec.witness_shaped (enc:=enc) (C:=Tryz.checked) (os:=os) (X:=fun w _=>laidMetH Tryz.prog Rows.sortedRow.laid w) false (World.doorLaid Tryz.prog 400 os) #[.slice none 0 0,.string ⟨#[]⟩,.string ⟨#[]⟩,.string ⟨#[]⟩,.int .i64 0] 8 rfl (World.shaped_of_RefB (by kernel_rfl) (by kernel_rfl)) (by kernel_rfl) (by kernel_rfl) (by kernel_rfl) (xY os _)) ?_;intro W base args ds gs before hsh hval hW hsz hx;have hW':=hW;obtain ⟨p,q,hA,hV,rfl,-,-⟩:=hW;have hA:DataW.TrodAll enc Tryz.prog W 0 (fun _=>true) true Tryz.f7.params.toList args.toList ds p:=hA;rw [Tryz.params7] at hA hval hsz;obtain ⟨v0,l0,d0,ds0,p0,q0,ha0,rfl,rfl,h0,hA⟩:=trodAll_cons hA;obtain ⟨v1,l1,d1,ds1,p1,q1,rfl,rfl,rfl,h1,hA⟩:=trodAll_cons hA;obtain ⟨v2,l2,d2,ds2,p2,q2,rfl,rfl,rfl,h2,hA⟩:=trodAll_cons hA;obtain ⟨v3,l3,d3,ds3,p3,q3,rfl,rfl,rfl,h3,hA⟩:=trodAll_cons hA;obtain ⟨v4,l4,d4,ds4,p4,q4,rfl,rfl,rfl,h4,hA⟩:=trodAll_cons hA;obtain ⟨rfl,rfl,rfl⟩:=trodAll_nil hA;obtain rfl:args=#[v0,v1,v2,v3,v4]:=Array.toList_inj.1 ha0;obtain ⟨rfl,rfl⟩:=trodVars_none hV;obtain ⟨pr,rfl,rfl,rfl,wp⟩:=Go.ChangeMaps.open_string Tryz.underlying9 (hval 1 9 v1 rfl rfl) h1;obtain ⟨dl,rfl,rfl,rfl,wd⟩:=Go.ChangeMaps.open_string Tryz.underlying9 (hval 2 9 v2 rfl rfl) h2;obtain ⟨af,rfl,rfl,rfl,wa⟩:=Go.ChangeMaps.open_string Tryz.underlying9 (hval 3 9 v3 rfl rfl) h3;obtain ⟨n,rfl,rfl,rfl,wn⟩:=open_int Tryz.underlying3 (hval 4 3 v4 rfl rfl) h4;obtain ⟨a0,n0,c0,ops,rfl,hS,hr0,hn0⟩:=zL (hval 0 22 v0 rfl rfl) h0 (fun elems spare he=>by
  have:=sized_slice hsz (j:=0) (t:=22) (e:=31) (elems:=elems) (spare:=spare) rfl (by simpa using he) Tryz.underlying22;rw [BY] at this;simp only [reachBytes] at this;omega)
 have wz:dl.size<=140737488351232:=by
  have h1:=sized_string hsz (j:=2) (t:=9) (bytes:=dl.data.toList) rfl rfl;simp only [reachBytes] at h1;have h2:dl.data.toList.length=dl.size:=by simp
  omega
 have hlt:∀x∈p0++([]++([]++([]++([]++[])))),x.block<W.heap.size:=fun x hx=>hW'.lt x (by simpa using hx)
 refine B5 (xX a0 n0 c0 ops pr dl af n W hsh (B4 hx) hS hr0 wp wz (B3 wn) hn0) ?_;rintro v W' ⟨rfl,hl⟩;refine ⟨_,_,_,[],p0++([]++([]++([]++([]++[])))),[],hW',?_,?_,rfl,hl.frame _,fun h=>by cases h⟩
 .exact trodAll_mk1 (shut_bool Tryz.underlying4 true)
 .exact trodAll_cons_mk (hl.trod BX (by kernel_rfl) (of_decide_eq_true (by kernel_rfl)) h0 (fun x hx=>hlt x (by simp [hx]))) (trodAll_cons_mk (Go.ChangeMaps.shut_string Tryz.underlying9 wp) (trodAll_cons_mk (Go.ChangeMaps.shut_string Tryz.underlying9 wd) (trodAll_cons_mk (Go.ChangeMaps.shut_string Tryz.underlying9 wa) (trodAll_cons_mk (shut_int Tryz.underlying3 wn) trodAll_mk0))))
theorem sorted_row:Rows.SortedSaid:=
 OpenClaim.holds_of_wide_leaving 7 Tryz.f7 rfl rfl rfl rfl rfl rfl rfl ⟨rfl,rfl,rfl,rfl,rfl⟩ rfl rfl rfl rfl rfl (by kernel_rfl) Tryz.func7 (by kernel_rfl)
  (of_decide_eq_true (by kernel_rfl)) (by unfold Func.isWrapper;first|(rw [if_pos (by decide +kernel)];kernel_rfl)|(rw [if_neg (by decide +kernel)];exact ⟨rfl,rfl⟩))
  (fun os started H enc _=>qk os started H enc)
theorem sorted_holds:Rows.SortedCardSaid:=by
 refine ⟨Claim7.tied_new_at .later [.data,.data,.data] true (Claim7.new_of_sixth sorted_row Rows.sortedCard.stood.harness false rfl ⟨rfl,rfl⟩ (by kernel_rfl) (by kernel_rfl) ?_) (by kernel_rfl),(fun D hD=>by cases hD),sorted_row_tie,(fun h=>by cases h),by kernel_rfl⟩;intro f fn hf hfn
 obtain rfl : f = 7 := oJ ((show Tryz.prog.funcNamed "shelf/shelfkeep.Sorted" = some 7 by kernel_rfl).symm.trans hf) |>.symm
 obtain rfl:fn=Tryz.f7:=(oJ (Tryz.func7.symm.trans hfn)).symm;exact ⟨by kernel_rfl,fun j t ht=>by
  rw [Tryz.params7] at ht;have hm:t∈[22,9,9,9,3]:=by simpa using Array.mem_of_getElem? ht
  have hall:([22,9,9,9,3].all fun u=>!Tryz.prog.wantsStandIn u)=true:=by kernel_rfl
  exact (show Tryz.prog.wantsStandIn t=false by simpa using List.all_eq_true.1 hall t hm)⟩
end
