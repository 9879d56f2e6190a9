/- For every script: shelflaw.Listed returns true on every schedule, without a race, and leaves its argument as it was: every script of PUT, GET, GETV, DROP, DROPV, LIST and VERS is answered as the document says (other steps are turned into a GET). No condition beyond the row's own: every script within the form's own reach; the three listed tables of the library read as the program's text lays them (tied). -/
import Derived.Test.YtnapepbdohidgaaGreatDoorQL30
import Derived.Test.YtnapepbdohidgaaGreatDoorCards
import Derived.Test.YtnapepbdohidgaaGreatDoorTie
set_option maxHeartbeats 4000000
set_option maxRecDepth 100000
namespace Go.Proofs.YtnapepbdohidgaaGreatDoor
section
open Go
open Go.ChangeShapes Go.WideShapes Go.ChangeAt Go.RowKit
open Go.Proofs.Qw
theorem nW {H:Type}{P:Program}{e:TypeId}{b:Nat}{d:DataW H}:∀ {l:List (DataW H)},d∈l->b∈d.weights P e->b∈DataW.weightsAll P e l
 |x::r,h,hb=>by
  unfold DataW.weightsAll;rcases List.mem_cons.1 h with rfl|h
  .exact List.mem_append_left _ hb
  .exact List.mem_append_right _ (nW h hb)
theorem DZ {H:Type}{enc:TypeId×Value->H}{W:World}{fuel:Nat}{a0:Option Addr}{len cap:Nat}{x:DataW H×List MemPlace}(h:DataW.trod enc Tryz.prog W 0 (fun _=>true) true fuel 22 [.slice a0 len cap]=some x)(hw:∀b∈x.1.weights Tryz.prog 22,b<=reachBytes){ops:List OpD}(hS:gB W (.slice a0 len cap) ops):∀o∈ops,o.delim.size<=reachBytes:=by
 intro o ho;obtain ⟨i,k,rfl⟩:=gM ho;have hne:ops≠[]:=by intro e;subst e;simp at k
 obtain ⟨a',c,he,hx⟩:=hS.form;obtain ⟨b,off,rfl,u⟩:=hx hne;have c3:=(u i k).2.2.2.1;cases he;rcases Go.Deep.open_slice Tryz.underlying22 h with ⟨hcs,_⟩|⟨a,len',c,m,n,D,Pl,hcs,_,hlc,hcm,hm,q,hel⟩
 .simp at hcs
 .simp only [List.cons.injEq,Value.slice.injEq,oI,and_true] at hcs;obtain ⟨rfl,rfl,rfl⟩:=hcs;simp only [if_true] at hm;subst hm;rw [qr] at hel;obtain ⟨r,h1,h2⟩:=hel i (by omega);obtain ⟨xs,n',-,hx2,hl,p,hf⟩:=DataW.trod_struct Tryz.underlying31 h2;obtain ⟨_,_,h3⟩:=World.cells?_some h1;have t3:=hf 3 _ rfl;obtain ⟨y3,e3⟩:∃y,xs[3]?=some y:=⟨xs[3]'(by rw [p];decide),eL _⟩;rw [e3] at t3;obtain ⟨s,hs,hy,-⟩:=DataW.trod_string Tryz.underlying9 t3;have k3:=h3 3 (by omega);rw [Addr.add_lit,Addr.add_lit,c3] at k3;have f:s=ops[i].delim:=by
   have e:r[3]?=some (.string s):=by
    have:=congrArg (fun l:List Value=>l[0]?) hs;simp only [List.getElem?_take,List.getElem?_drop] at this;simp at this;exact this.2
   rw [e] at k3;simpa using k3.symm
  rw [<-f];have hb:s.data.toList.length∈(D i).weights Tryz.prog 31:=by
   have hD:D i=.agg (xs.map (·.1)):=congrArg Prod.fst hx2;rw [hD];unfold DataW.weights;rw [Tryz.underlying31];refine DataW.weights_mem_each (j:=3) (t:=9) rfl (d:=.lit (.string s.data.toList)) ?_ _ (by simp [DataW.weights]);rw [List.getElem?_map,e3,hy];rfl
  have:=hw _ (by
   rw [q];unfold DataW.weights;rw [Tryz.underlying22];exact List.mem_cons_of_mem _ (List.mem_append_left _ (nW (List.mem_map.2 ⟨i,List.mem_range.2 k,rfl⟩) hb)))
  simpa using this
theorem yS (os:Os)(args:Array Value):laidMetH Tryz.prog Rows.listedRow.laid ((World.doorLaid Tryz.prog 400 os).forCall (fun _ _=>0) ⟨#[],args,[]⟩).memory:=
 laidMetH_of_parts3 (fuel:=8) (laidMet_of_run' 8 (by kernel_rfl) (by kernel_rfl)) (by kernel_rfl) (by kernel_rfl)
theorem qF (os:Os)(a:os.Started)(H:Type)(enc:TypeId×Value->H):
  ReturnsInLeavingWide {} Tryz.checked os 6 .any (fun w args=>(Rows.listedSpec.pre enc Tryz.prog Tryz.f6 [] false w args/\laidMetH Tryz.prog Rows.listedRow.laid w)/\sizedMet enc Tryz.prog Tryz.f6 (OpenSpec.ofChange Rows.listedSpec) false w args)
   (Rows.listedSpec.post enc Tryz.prog Tryz.f6 false true false false):=by
 refine FD a Tryz.func6 (ChangeSpec.witness_shaped (enc:=enc) (C:=Tryz.checked) (os:=os) (X:=fun w _=>laidMetH Tryz.prog Rows.listedRow.laid w) false (World.doorLaid Tryz.prog 400 os) #[.slice none 0 0] 8 rfl (World.shaped_of_RefB (by kernel_rfl) (by kernel_rfl)) (by kernel_rfl) (by kernel_rfl) (by kernel_rfl) (yS os _)) ?_;intro W base args r gs before f c n hsz hx;have hW':=n;obtain ⟨p,q,hA,s,rfl,-,-⟩:=n;have hA:DataW.TrodAll enc Tryz.prog W 0 (fun _=>true) true Tryz.f6.params.toList args.toList r p:=hA;rw [Tryz.params6] at hA c hsz;obtain ⟨v0,l0,d0,ds0,p0,q0,k,rfl,rfl,h0,hA⟩:=trodAll_cons hA;obtain ⟨rfl,rfl,rfl⟩:=trodAll_nil hA;obtain rfl:args=#[v0]:=Array.toList_inj.1 k;obtain ⟨rfl,rfl⟩:=trodVars_none s;obtain ⟨a0,m,c0,ops,rfl,hS,i,l⟩:=AJ (c 0 22 v0 rfl rfl) h0 (fun elems spare he=>by
  have:=sized_slice hsz (j:=0) (t:=22) (e:=31) (elems:=elems) (spare:=spare) rfl (by simpa using he) Tryz.underlying22;rw [Dg] at this;simp only [reachBytes] at this;omega)
 have hd:∀o∈ops,o.delim.size<=140737488351232:=fun o ho=>by
  obtain ⟨fuel,hf⟩:=h0;have hf2:DataW.trod enc Tryz.prog W 0 (fun _=>true) true fuel 22 [.slice a0 m c0]=some (d0,p0):=by simpa [Value.cells] using hf
  have:=DZ hf2 (fun b hb=>by
   have:=List.all_eq_true.1 hsz _ (DataW.weights_mem_each (j:=0) (t:=22) rfl (d:=d0) rfl b hb);simpa using this) hS o ho
  simp only [reachBytes] at this;omega
 have hlt:∀x∈p0++[],x.block<W.heap.size:=fun x hx=>hW'.lt x (by simpa using hx)
 refine Dj (yR a0 m c0 ops W f (Di hx) hS i hd l) ?_;rintro v W' ⟨rfl,hl⟩;refine ⟨_,_,_,[],p0++[],[],hW',?_,?_,rfl,hl.frame _,fun h=>by cases h⟩
 .exact trodAll_mk1 (shut_bool Tryz.underlying4 true)
 .exact trodAll_cons_mk (hl.trod Df (by kernel_rfl) (of_decide_eq_true (by kernel_rfl)) h0 (fun x hx=>hlt x (by simp [hx]))) trodAll_mk0
theorem listed_row:Rows.ListedSaid:=
 OpenClaim.holds_of_wide_leaving 6 Tryz.f6 rfl rfl rfl rfl rfl rfl rfl ⟨rfl,rfl,rfl,rfl,rfl⟩ rfl rfl rfl rfl rfl (by kernel_rfl) Tryz.func6 (by kernel_rfl)
  (of_decide_eq_true (by kernel_rfl)) (by unfold Func.isWrapper;first|(rw [if_pos (by decide +kernel)];kernel_rfl)|(rw [if_neg (by decide +kernel)];exact ⟨rfl,rfl⟩))
  (fun os a H enc _=>qF os a H enc)
theorem listed_holds:Rows.ListedCardSaid:=by
 refine ⟨Claim7.tied_new_at .later [.data,.data,.data] true (Claim7.new_of_sixth listed_row Rows.listedCard.stood.harness false rfl ⟨rfl,rfl⟩ (by kernel_rfl) (by kernel_rfl) ?_) (by kernel_rfl),(fun D hD=>by cases hD),listed_row_tie,(fun h=>by cases h),by kernel_rfl⟩;intro f fn hf hfn
 obtain rfl : f = 6 := oJ ((show Tryz.prog.funcNamed "shelf/shelflaw.Listed" = some 6 by kernel_rfl).symm.trans hf) |>.symm
 obtain rfl:fn=Tryz.f6:=(oJ (Tryz.func6.symm.trans hfn)).symm;exact ⟨by kernel_rfl,fun j t ht=>by
  rw [Tryz.params6] at ht;have hm:t∈[22]:=by simpa using Array.mem_of_getElem? ht
  have hall:([22].all fun u=>!Tryz.prog.wantsStandIn u)=true:=by kernel_rfl
  exact (show Tryz.prog.wantsStandIn t=false by simpa using List.all_eq_true.1 hall t hm)⟩
end
