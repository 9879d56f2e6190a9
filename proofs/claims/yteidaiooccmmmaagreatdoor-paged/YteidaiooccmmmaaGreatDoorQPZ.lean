/- For every script: shelflaw.Paged returns true on every schedule, without a race, and leaves its argument as it was: every script of PUT, GET, GETV, DROP, DROPV, LIST, VERS, NEXT, TICK and STATS is answered as the document says (other steps are turned into a TICK of nothing). No condition beyond the row's own: every script within the form's own reach; the three listed tables of the library read as the program's text lays them (tied). -/
import Derived.Test.YteidaiooccmmmaaGreatDoorQP23
import Derived.Test.YteidaiooccmmmaaGreatDoorCards
import Derived.Test.YteidaiooccmmmaaGreatDoorTie
set_option maxHeartbeats 4000000
set_option maxRecDepth 100000
namespace Go.Proofs.YteidaiooccmmmaaGreatDoor
section
open Go
open Go.ChangeShapes Go.WideShapes Go.ChangeAt Go.RowKit
open Go.Proofs.Qw
theorem oU {H:Type}{P:Program}{e:TypeId}{b:Nat}{d:DataW H}:∀ {l:List (DataW H)},d∈l->b∈d.weights P e->b∈DataW.weightsAll P e l
 |x::r,h,hb=>by
  unfold DataW.weightsAll;rcases List.mem_cons.1 h with rfl|h
  .exact List.mem_append_left _ hb
  .exact List.mem_append_right _ (oU h hb)
theorem FB {H:Type}{L:TypeId×Value->H}{W:World}{r:Nat}{X:Option Addr}{u q:Nat}{x:DataW H×List MemPlace}(h:DataW.trod L Tryz.prog W 0 (λ_=>true) true r 22 [.slice X u q]=some x)(hw:∀b∈x.1.weights Tryz.prog 22,b<=reachBytes){c:List OpD}(hS:il W (.slice X u q) c):∀o∈c,o.delim.size<=reachBytes:=by
 intro o ho;obtain ⟨i,S,rfl⟩:=gM ho;have A:c≠[]:=by intro e;subst e;simp at S
 have ⟨a',k,he,hx⟩:=hS.form;obtain ⟨b,off,rfl,B⟩:=hx A;have c3:=(B i S).2.2.2.1;cases he;rcases Go.Deep.open_slice Tryz.underlying22 h with ⟨f,_⟩|⟨a,len',k,m,n,D,Pl,f,_,hlc,hcm,V,v,p⟩
 .simp at f
 .simp only [List.cons.injEq,Value.slice.injEq,oI,and_true] at f;obtain ⟨rfl,rfl,rfl⟩:=f;simp only [if_true] at V;subst V;rw [rp] at p;have ⟨Q,h1,h2⟩:=p i (by omega);obtain ⟨R,n',-,z,hl,F,hf⟩:=DataW.trod_struct Tryz.underlying30 h2;have ⟨_,_,h3⟩:=World.cells?_some h1;have T:=hf 3 _ rfl;obtain ⟨y3,e3⟩:∃y,R[3]?=some y:=⟨R[3]'(by rw [F];decide),eL _⟩;rw [e3] at T;obtain ⟨s,hs,hy,-⟩:=DataW.trod_string Tryz.underlying9 T;have G:=h3 3 (by omega);rw [Addr.add_lit,Addr.add_lit,c3] at G;have P:s=c[i].delim:=by
   have e:Q[3]?=some (.string s):=by
    have:=congrArg (λl:List Value=>l[0]?) hs;simp only [List.getElem?_take,List.getElem?_drop] at this;simp at this;exact this.2
   rw [e] at G;simpa using G.symm
  rw [<-P];have hb:s.data.toList.length∈(D i).weights Tryz.prog 30:=by
   have hD:D i=.agg (R.map (·.1)):=congrArg Prod.fst z;rw [hD];unfold DataW.weights;rw [Tryz.underlying30];refine DataW.weights_mem_each (j:=3) (t:=9) rfl (d:=.lit (.string s.data.toList)) ?_ _ (by simp [DataW.weights]);rw [List.getElem?_map,e3,hy];rfl
  have:=hw _ (by
   rw [v];unfold DataW.weights;rw [Tryz.underlying22];exact List.mem_cons_of_mem _ (List.mem_append_left _ (oU (List.mem_map.2 ⟨i,List.mem_range.2 S,rfl⟩) hb)))
  simpa using this
theorem Dh (b:Os)(a:Array Value):laidMetH Tryz.prog Rows.pagedRow.laid ((World.doorLaid Tryz.prog 400 b).forCall (λ_ _=>0) ⟨#[],a,[]⟩).memory:=
 laidMetH_of_parts3 (fuel:=8) (laidMet_of_run' 8 (by kernel_rfl) (by kernel_rfl)) (by kernel_rfl) (by kernel_rfl)
theorem paged_lifted (r:Os)(f:r.Started)(H:Type)(c:TypeId×Value->H):
  ReturnsInLeavingWide {} Tryz.checked r 3 .any (λw a=>(Rows.pagedSpec.pre c Tryz.prog Tryz.f3 [] false w a/\laidMetH Tryz.prog Rows.pagedRow.laid w)/\sizedMet c Tryz.prog Tryz.f3 (OpenSpec.ofChange Rows.pagedSpec) false w a)
   (Rows.pagedSpec.post c Tryz.prog Tryz.f3 false true false false):=by
 refine G8 f Tryz.func3 (ChangeSpec.witness_shaped (enc:=c) (C:=Tryz.checked) (os:=r) (X:=λw _=>laidMetH Tryz.prog Rows.pagedRow.laid w) false (World.doorLaid Tryz.prog 400 r) #[.slice none 0 0] 8 rfl (World.shaped_of_RefB (by kernel_rfl) (by kernel_rfl)) (by kernel_rfl) (by kernel_rfl) (by kernel_rfl) (Dh r _)) ?_;intro W base a ds gs before L i R m y;have u:=R;obtain ⟨p,q,n,hV,rfl,-,-⟩:=R;have n:DataW.TrodAll c Tryz.prog W 0 (λ_=>true) true Tryz.f3.params.toList a.toList ds p:=n;rw [Tryz.params3] at n i m;obtain ⟨v0,l0,T,ds0,P,q0,F,rfl,rfl,B,n⟩:=trodAll_cons n;obtain ⟨rfl,rfl,rfl⟩:=trodAll_nil n;obtain rfl:a=#[v0]:=Array.toList_inj.1 F;obtain ⟨rfl,rfl⟩:=trodVars_none hV;obtain ⟨a0,S,c0,s,rfl,hS,D,Q⟩:=BR (i 0 22 v0 rfl rfl) B (λk l he=>by
  have:=sized_slice m (j:=0) (t:=22) (e:=30) (elems:=k) (spare:=l) rfl (by simpa using he) Tryz.underlying22;rw [EF] at this;simp only [reachBytes] at this;omega)
 have hd:∀o∈s,o.delim.size<=140737488351232:=λo ho=>by
  obtain ⟨z,hf⟩:=B;have G:DataW.trod c Tryz.prog W 0 (λ_=>true) true z 22 [.slice a0 S c0]=some (T,P):=by simpa [Value.cells] using hf
  have:=FB G (λb hb=>by
   have:=List.all_eq_true.1 m _ (DataW.weights_mem_each (j:=0) (t:=22) rfl (d:=T) rfl b hb);simpa using this) hS o ho
  simp only [reachBytes] at this;omega
 have A:∀x∈P++[],x.block<W.heap.size:=λx y=>u.lt x (by simpa using y)
 refine EI (Dg a0 S c0 s W L (EH y) hS D hd Q) ?_;rintro v W' ⟨rfl,V⟩;refine ⟨_,_,_,[],P++[],[],u,?_,?_,rfl,V.frame _,λh=>by cases h⟩
 .exact trodAll_mk1 (shut_bool Tryz.underlying4 true)
 .exact trodAll_cons_mk (V.trod EE (by kernel_rfl) (of_decide_eq_true (by kernel_rfl)) B (λx y=>A x (by simp [y]))) trodAll_mk0
theorem paged_row:Rows.PagedSaid:=
 OpenClaim.holds_of_wide_leaving 3 Tryz.f3 rfl rfl rfl rfl rfl rfl rfl ⟨rfl,rfl,rfl,rfl,rfl⟩ rfl rfl rfl rfl rfl (by kernel_rfl) Tryz.func3 (by kernel_rfl)
  (of_decide_eq_true (by kernel_rfl)) (by unfold Func.isWrapper;first|(rw [if_pos (by decide +kernel)];kernel_rfl)|(rw [if_neg (by decide +kernel)];exact ⟨rfl,rfl⟩))
  (λc a H b _=>paged_lifted c a H b)
theorem paged_holds:Rows.PagedCardSaid:=by
 refine ⟨Claim7.tied_new_at .later [.data,.data,.data] true (Claim7.new_of_sixth paged_row Rows.pagedCard.stood.harness false rfl ⟨rfl,rfl⟩ (by kernel_rfl) (by kernel_rfl) ?_) (by kernel_rfl),(λD hD=>by cases hD),paged_row_tie,(λh=>by cases h),by kernel_rfl⟩;intro f fn hf hfn
 obtain rfl : f = 3 := oJ ((show Tryz.prog.funcNamed "shelf/shelflaw.Paged" = some 3 by kernel_rfl).symm.trans hf) |>.symm
 obtain rfl:fn=Tryz.f3:=(oJ (Tryz.func3.symm.trans hfn)).symm;exact ⟨by kernel_rfl,λj t ht=>by
  rw [Tryz.params3] at ht;have hm:t∈[22]:=by simpa using Array.mem_of_getElem? ht
  have hall:([22].all λu=>!Tryz.prog.wantsStandIn u)=true:=by kernel_rfl
  exact (show Tryz.prog.wantsStandIn t=false by simpa using List.all_eq_true.1 hall t hm)⟩
end
