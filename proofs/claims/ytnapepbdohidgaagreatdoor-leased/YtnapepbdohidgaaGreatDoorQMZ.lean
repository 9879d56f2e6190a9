/- For all numbers n, t and u: shelfkeep.Leased returns true on every schedule, without a data race, and its arguments read as before: a listing is open for its lease behind each of its pages, and not a moment longer; so many are open at once, and then one more is refused. No condition beyond the row's own: the three listed tables of the library read as the program's text lays them (tied). The way: the program made sequential (Tryq: page may stop at its beginning; items calls what it starts) is proved by contracts; one theorem on goroutines (company) carries that over to the real program. -/
import Derived.Test.YtnapepbdohidgaaGreatDoorQM42
import Derived.Test.YtnapepbdohidgaaGreatDoorCards
import Derived.Test.YtnapepbdohidgaaGreatDoorTie
import Derived.ChangeMaps5
import Derived.LaidMore
import Derived.Stop.Joined
namespace Go.Proofs.YtnapepbdohidgaaGreatDoor
open Go
open Go.ChangeShapes Go.WideShapes Go.ChangeAt Go.RowKit
open Go.Proofs.YtnapepbdohidgaaGreatDoorQ (LeftW leased_fin LeftW.frame)
theorem leased_own : ownKnob Tryz.prog.godebug=none:=by kernel_rfl
theorem leased_met (os : Os) (args : Array Value) : laidMetH Tryz.prog Rows.leasedRow.laid ((World.doorLaid Tryz.prog 400 os).forCall (fun _ _=>0) ⟨#[],args,[]⟩).memory:=
  laidMetH_of_parts3 (fuel:=8) (laidMet_of_run' 8 (by kernel_rfl) (by kernel_rfl)) (by kernel_rfl) (by kernel_rfl)
theorem wf_range {c : Int} (wc : (Lit.int .i64 c).wf=true) : -9223372036854775808≤c∧c≤9223372036854775807:=by
  have h1 : IntKind.i64.min=-9223372036854775808:=rfl
  have h2 : IntKind.i64.max=9223372036854775807:=rfl
  simp only [Lit.wf,Bool.and_eq_true,decide_eq_true_eq] at wc
  omega
set_option maxRecDepth 100000 in
theorem leased_lifted (os : Os) (started : os.Started) (H : Type) (enc : TypeId×Value→H) :
    ReturnsInLeavingWide {} Tryz.checked os 10 .any (fun w args=>(Rows.leasedSpec.pre enc Tryz.prog Tryz.f10 [] false w args∧laidMetH Tryz.prog Rows.leasedRow.laid w)∧sizedMet enc Tryz.prog Tryz.f10 (OpenSpec.ofChange Rows.leasedSpec) false w args)
      (Rows.leasedSpec.post enc Tryz.prog Tryz.f10 false true false false):=by
  refine returnsInLeavingWide_of_good (C:=Tryz.checked) leased_own started
    (ChangeSpec.witness_shaped (enc:=enc) (C:=Tryz.checked) (os:=os) (X:=fun w _=>laidMetH Tryz.prog Rows.leasedRow.laid w) false (World.doorLaid Tryz.prog 400 os) #[.int .i64 0,.int .i64 0,.int .i64 0] 8 rfl (World.shaped_of_RefB (by kernel_rfl) (by kernel_rfl)) (by kernel_rfl) (by kernel_rfl) (by kernel_rfl) (leased_met os _)) ?_
  intro w tape i _ hsh _ hok hpre _
  obtain ⟨_,_,_,fn',hfn',_,_,_,_,hval0⟩:=hok
  have e : fn'=Tryz.f10:=Option.some.inj (hfn'.symm.trans Tryz.func10)
  subst e
  obtain ⟨⟨⟨ds,gs,before,hw,hc⟩,hx⟩,hz⟩:=hpre
  have hW0:=DataW.Whole.of_heap (w':=w.forCall tape i) (by rfl) hw
  clear hw hc hx hz
  have hval : ∀ (j : Nat) t v,Tryz.f10.params[j]?=some t→i.args[j]?=some v→Value.okWide Tryz.prog (w.forCall tape i) .any w.heap.size t v:=hval0
  generalize hWW : w.forCall tape i=W at *
  generalize i.args=args at *
  have hW':=hW0
  obtain ⟨p,q,hA0,hV,rfl,_,_⟩:=hW0
  have hA : DataW.TrodAll enc Tryz.prog W 0 (fun _=>true) true Tryz.f10.params.toList args.toList ds p:=hA0
  rw [Tryz.params10] at hA hval
  obtain ⟨v0,v1,v2,d0,d1,d2,p0,p1,p2,rfl,rfl,rfl,h0,h1,h2⟩:=trodAll_three hA
  obtain ⟨rfl,rfl⟩:=trodVars_none hV
  obtain ⟨c0,rfl,rfl,rfl,w0⟩:=open_int Tryz.underlying3 (hval 0 3 v0 rfl rfl) h0
  obtain ⟨c1,rfl,rfl,rfl,w1⟩:=open_int Tryz.underlying3 (hval 1 3 v1 rfl rfl) h1
  obtain ⟨c2,rfl,rfl,rfl,w2⟩:=open_int Tryz.underlying3 (hval 2 3 v2 rfl rfl) h2
  obtain ⟨N,last,o,w',t',e1,e2,e3,e4⟩:=leased_fin c0 c1 c2 (wf_range w0) (wf_range w1) (wf_range w2) W hsh
  refine ⟨N,last,o,w',t',e1,e2,e3,e4.mono fun v hp=>ChangeSpec.post_blind ?_⟩
  obtain ⟨rfl,hl⟩:=hp
  refine ⟨_,_,_,[],[],[],hW',?_,?_,rfl,hl.frame _,fun h=>by cases h⟩
  · exact trodAll_mk1 (shut_bool Tryz.underlying4 true)
  · exact trodAll_mk3 (shut_int Tryz.underlying3 w0) (shut_int Tryz.underlying3 w1) (shut_int Tryz.underlying3 w2)
theorem leased_row : Rows.LeasedSaid:=
  OpenClaim.holds_of_wide_leaving 10 Tryz.f10 rfl rfl rfl rfl rfl rfl rfl ⟨rfl,rfl,rfl,rfl,rfl⟩ rfl rfl rfl rfl rfl (by kernel_rfl) Tryz.func10 (by kernel_rfl)
    (of_decide_eq_true (by kernel_rfl)) (by unfold Func.isWrapper; first | (rw [if_pos (by decide +kernel)]; kernel_rfl) | (rw [if_neg (by decide +kernel)]; exact ⟨rfl,rfl⟩))
    (fun os started H enc _=>leased_lifted os started H enc)
theorem leased_holds : Rows.LeasedCardSaid:=by
  refine ⟨Claim7.tied_new_at .later [.data,.data,.data] true (Claim7.new_of_sixth leased_row Rows.leasedCard.stood.harness false rfl ⟨rfl,rfl⟩ (by kernel_rfl) (by kernel_rfl) ?_) (by kernel_rfl),(fun D hD=>by cases hD),leased_row_tie,(fun h=>by cases h),by kernel_rfl⟩
  intro f fn hf hfn
  obtain rfl : f = 10 := Option.some.inj ((show Tryz.prog.funcNamed "shelf/shelfkeep.Leased" = some 10 by kernel_rfl).symm.trans hf) |>.symm
  obtain rfl : fn=Tryz.f10:=(Option.some.inj (Tryz.func10.symm.trans hfn)).symm
  exact ⟨by kernel_rfl,fun j t ht=>by
    rw [Tryz.params10] at ht
    have hm : t∈[3,3,3]:=by simpa using Array.mem_of_getElem? ht
    have hall : ([3,3,3].all fun u=>!Tryz.prog.wantsStandIn u)=true:=by kernel_rfl
    exact (show Tryz.prog.wantsStandIn t=false by simpa using List.all_eq_true.1 hall t hm)⟩
end Go.Proofs.YtnapepbdohidgaaGreatDoor
