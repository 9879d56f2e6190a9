/- For all scripts of bounded bulk: shelflaw.Fresh returns true on every schedule, without a race, and leaves its arguments as they were: two scripts, told in turns, twice, are answered as the document says; whoever writes into what came out, and into its spare room, changes nothing else; what is handed in stays, its spare room too. Its condition: what the arguments hold together is of bulk at most 1048576 (the given second form; for scripts too great for any machine the law's own book of lists passes the greatest slice); the three listed tables of the library read as the program's text lays them (tied). -/
import Derived.Test.YthnlbojplkflaaaGreatDoorQP21
import Derived.Test.YthnlbojplkflaaaGreatDoorCards
import Derived.Test.YthnlbojplkflaaaGreatDoorTie
set_option maxHeartbeats 4000000
set_option maxRecDepth 100000
namespace Go.Proofs.YthnlbojplkflaaaGreatDoor
section
open Go
open Go.ChangeShapes Go.WideShapes Go.ChangeAt Go.RowKit
open Go.Proofs.Qw
theorem qU {a:Type}{P:Program}{e:TypeId}{b:Nat}{d:DataW a}:∀ {l:List (DataW a)},d∈l->b∈d.weights P e->b∈DataW.weightsAll P e l
 |x::r,h,hb=>by
  unfold DataW.weightsAll;rcases List.mem_cons.1 h with rfl|h
  .exact List.mem_append_left _ hb
  .exact List.mem_append_right _ (qU h hb)
theorem Bn {c:Type}{P:TypeId×Value->c}{W:World}{u:Nat}{a0:Option Addr}{v r:Nat}{x:DataW c×List MemPlace}(h:DataW.trod P Tryz.prog W 0 (λ_=>true) true u 22 [.slice a0 v r]=some x)(hw:∀b∈x.1.weights Tryz.prog 22,b<=reachBytes){f:List OpD}(hS:jD W (.slice a0 v r) f):∀o∈f,o.fe.size<=reachBytes:=by
 intro o ho;obtain ⟨i,X,rfl⟩:=gM ho;have B:f≠[]:=by intro e;subst e;simp at X
 have ⟨a',p,he,hx⟩:=hS.form;obtain ⟨b,off,rfl,F⟩:=hx B;have c3:=(F i X).2.2.2.1;cases he;rcases Go.Deep.open_slice Tryz.underlying22 h with ⟨k,_⟩|⟨a,len',p,m,n,D,Pl,k,_,hlc,hcm,hm,z,q⟩
 .simp at k
 .simp only [List.cons.injEq,Value.slice.injEq,Option.some.injEq,and_true] at k;obtain ⟨rfl,rfl,rfl⟩:=k;simp only [if_true] at hm;subst hm;rw [un] at q;have ⟨T,h1,h2⟩:=q i (by omega);obtain ⟨V,n',-,A,hl,G,hf⟩:=DataW.trod_struct Tryz.underlying37 h2;have ⟨_,_,h3⟩:=World.cells?_some h1;have t3:=hf 3 _ rfl;obtain ⟨y3,e3⟩:∃y,V[3]?=some y:=⟨V[3]'(by rw [G];decide),eL _⟩;rw [e3] at t3;obtain ⟨s,hs,hy,-⟩:=DataW.trod_string Tryz.underlying9 t3;have L:=h3 3 (by omega);rw [Addr.add_lit,Addr.add_lit,c3] at L;have R:s=f[i].fe:=by
   have e:T[3]?=some (.string s):=by
    have:=congrArg (λl:List Value=>l[0]?) hs;simp only [List.getElem?_take,List.getElem?_drop] at this;simp at this;exact this.2
   rw [e] at L;simpa using L.s
  rw [<-R];have hb:s.data.toList.length∈(D i).weights Tryz.prog 37:=by
   have hD:D i=.agg (V.map (·.1)):=congrArg Prod.fst A;rw [hD];unfold DataW.weights;rw [Tryz.underlying37];refine DataW.weights_mem_each (j:=3) (t:=9) rfl (d:=.lit (.string s.data.toList)) ?_ _ (by simp [DataW.weights]);rw [List.getElem?_map,e3,hy];rfl
  have:=hw _ (by
   rw [z];unfold DataW.weights;rw [Tryz.underlying22];exact List.mem_cons_of_mem _ (List.mem_append_left _ (qU (List.mem_map.2 ⟨i,List.mem_range.2 X,rfl⟩) hb)))
  simpa using this
theorem Gy (b:Os)(a:Array Value):laidMetH Tryz.prog Rows.freshUptoRow.laid ((World.doorLaid Tryz.prog 400 b).forCall (λ_ _=>0) ⟨#[],a,[]⟩).memory:=
 laidMetH_of_parts3 (fuel:=8) (laidMet_of_run' 8 (by kernel_rfl) (by kernel_rfl)) (by kernel_rfl) (by kernel_rfl)
theorem fresh_lifted (T:Os)(l:T.Started)(a:Type)(k:TypeId×Value->a):
  ReturnsInLeavingWide {} Tryz.checked T 3 .any (λw c=>((Rows.OpenSpec.upto Rows.freshSpec).pre k Tryz.prog Tryz.f3 [] false w c/\laidMetH Tryz.prog Rows.freshUptoRow.laid w)/\sizedMet k Tryz.prog Tryz.f3 (Rows.OpenSpec.upto Rows.freshSpec) false w c)
   (Rows.freshSpec.post k Tryz.prog Tryz.f3 false true false false):=by
 refine Gx l Tryz.func3 (World.doorLaid Tryz.prog 400 T) #[.slice none 0 0,.slice none 0 0] rfl (World.shaped_of_RefB (by kernel_rfl) (by kernel_rfl)) (by kernel_rfl) (by kernel_rfl) (by kernel_rfl) (Gy T _) ?_;intro W base c ds gs before ai m hW n ad A;have P:=hW;obtain ⟨p,q,y,hV,rfl,-,-⟩:=hW;have y:DataW.TrodAll k Tryz.prog W 0 (λ_=>true) true Tryz.f3.params.toList c.toList ds p:=y;rw [Tryz.params3] at y m n;obtain ⟨v0,l0,d0,ds0,p0,q0,ac,rfl,rfl,R,y⟩:=trodAll_cons y;obtain ⟨v1,l1,d1,ds1,p1,q1,rfl,rfl,rfl,V,y⟩:=trodAll_cons y;obtain ⟨rfl,rfl,rfl⟩:=trodAll_nil y;obtain rfl:c=#[v0,v1]:=Array.toList_inj.1 ac;obtain ⟨rfl,rfl⟩:=trodVars_none hV;obtain ⟨a0,X,c0,u,rfl,G,ab,-⟩:=wO (m 0 22 v0 rfl rfl) R (λf i he=>by
  have:=sized_slice n (j:=0) (t:=22) (e:=37) (elems:=f) (spare:=i) rfl (by simpa using he) Tryz.underlying22;rw [AH] at this;simp only [reachBytes] at this;omega)
 obtain ⟨a1,n1,c1,z,rfl,L,af,-⟩:=wO (m 1 22 v1 rfl rfl) V (λf i he=>by
  have:=sized_slice n (j:=1) (t:=22) (e:=37) (elems:=f) (spare:=i) rfl (by simpa using he) Tryz.underlying22;rw [AH] at this;simp only [reachBytes] at this;omega)
 have s:X+n1<=1048576:=by
  have e0:=Bm R;have e1:=Bm V;have F:=of_decide_eq_true ad;simp only [List.append_nil,Rows.uptoBulkAll] at F;omega
 have aj:∀o∈u,o.fe.size<=140737488351232:=λo ho=>by
  obtain ⟨r,hf⟩:=R;have B:DataW.trod k Tryz.prog W 0 (λ_=>true) true r 22 [.slice a0 X c0]=some (d0,p0):=by simpa [Value.cells] using hf
  have:=Bn B (λb F=>by
   have:=List.all_eq_true.1 n _ (DataW.weights_mem_each (j:=0) (t:=22) rfl (d:=d0) rfl b F);simpa using this) G o ho
  simp only [reachBytes] at this;omega
 have aa:∀o∈z,o.fe.size<=140737488351232:=λo ho=>by
  obtain ⟨r,hf⟩:=V;have B:DataW.trod k Tryz.prog W 0 (λ_=>true) true r 22 [.slice a1 n1 c1]=some (d1,p1):=by simpa [Value.cells] using hf
  have:=Bn B (λb F=>by
   have:=List.all_eq_true.1 n _ (DataW.weights_mem_each (j:=1) (t:=22) rfl (d:=d1) rfl b F);simpa using this) L o ho
  simp only [reachBytes] at this;omega
 have D:∀x∈p0++(p1++[]),x.block<W.heap.size:=λx A=>P.lt x (by simpa using A)
 refine Iq (Dm a0 a1 X c0 n1 c1 u z W ai (Ip A) G L ab af aj aa s) ?_;rintro v W' ⟨rfl,hl⟩;refine ⟨_,_,_,[],p0++(p1++[]),[],P,?_,?_,rfl,hl.frame _,λh=>by cases h⟩
 .exact trodAll_mk1 (shut_bool Tryz.underlying4 true)
 .exact trodAll_cons_mk (hl.trod AG (by kernel_rfl) (of_decide_eq_true (by kernel_rfl)) R (λx A=>D x (by simp [A]))) (trodAll_cons_mk (hl.trod AG (by kernel_rfl) (of_decide_eq_true (by kernel_rfl)) V (λx A=>D x (by simp [A]))) trodAll_mk0)
theorem fresh_row:Rows.FreshUptoSaid:=by
 unfold Rows.FreshUptoSaid OpenClaim.holds;refine ⟨by kernel_rfl,by kernel_rfl,by kernel_rfl,by kernel_rfl,by kernel_rfl,by kernel_rfl,?_,?_,3,Tryz.f3,by kernel_rfl,Tryz.func3,?_,?_,by kernel_rfl,?_,?_,by kernel_rfl,?_,by kernel_rfl,by kernel_rfl,by kernel_rfl,by kernel_rfl,by kernel_rfl,?_⟩
 .show Tryz.prog.mayEnter=true;kernel_rfl
 .exact ⟨rfl,rfl,rfl,rfl,rfl,rfl,rfl⟩
 .have o:(Tryz.f3.params.all λt=>Tryz.prog.readableRec t)=true:=by kernel_rfl
  have l:(Tryz.f3.resultTypes.all λt=>Tryz.prog.readableRec t&&decide (t<Tryz.prog.types.size))=true:=by kernel_rfl
  refine ⟨λt d=>Array.all_eq_true_iff_forall_mem.1 o t d,λt d=>?_⟩;have:=Array.all_eq_true_iff_forall_mem.1 l t d;rw [bT] at this;exact ⟨this.1,of_decide_eq_true this.2⟩
 .exact λh=>by cases h
 .exact of_decide_eq_true (by kernel_rfl)
 .unfold Func.isWrapper;first|(rw [if_pos (by decide +kernel)];kernel_rfl)|(rw [if_neg (by decide +kernel)];exact ⟨rfl,rfl⟩)
 .exact ⟨by kernel_rfl,by kernel_rfl,by kernel_rfl⟩
 .have j:∀b:Os,Stop.quiet Tryz.pinned.checked.prog b:=λb k i=>by
   have e:Tryz.pinned.checked.prog.stopKnobs=[]:=by kernel_rfl
   rw [e] at i;cases i
  refine ⟨⟨by kernel_rfl,by kernel_rfl,by kernel_rfl⟩,⟨by kernel_rfl,by kernel_rfl⟩,⟨by kernel_rfl,by kernel_rfl,by kernel_rfl,by kernel_rfl⟩,⟨by kernel_rfl,by kernel_rfl,by kernel_rfl,by kernel_rfl⟩,by kernel_rfl,λn p=>((List.not_mem_nil:¬n∈[]) p).elim,⟨_,(WideRow.started_initial),j _⟩,[],rfl,λb m _ a f _=>?_⟩;rw [OpenClaim.post_not_still (c:=Rows.freshUptoRow) rfl];intro F;exact fresh_lifted b m a f (show Tryz.prog.mayEnter=true by kernel_rfl)
theorem fresh_holds:Rows.FreshUptoCardSaid:=by
 refine ⟨Claim7.tied_new_at .later [.data,.data,.data] true (Claim7.new_of_sixth fresh_row Rows.freshUptoCard.stood.harness false rfl ⟨rfl,rfl⟩ (by kernel_rfl) (by kernel_rfl) ?_) (by kernel_rfl),(λD hD=>by cases hD),freshUpto_row_tie,(λh=>by cases h),by kernel_rfl⟩;intro f fn hf hfn
 obtain rfl : f = 3 := oJ ((show Tryz.prog.funcNamed "shelf/shelflaw.Fresh" = some 3 by kernel_rfl).s.t hf) |>.s
 obtain rfl:fn=Tryz.f3:=(oJ (Tryz.func3.s.t hfn)).s;exact ⟨by kernel_rfl,λj t ht=>by
  rw [Tryz.params3] at ht;have hm:t∈[22,22]:=by simpa using Array.mem_of_getElem? ht
  have hall:([22,22].all λu=>!Tryz.prog.wantsStandIn u)=true:=by kernel_rfl
  exact (show Tryz.prog.wantsStandIn t=false by simpa using List.all_eq_true.1 hall t hm)⟩
end
