/- A part. -/
import Derived.Test.YtnapepbdohidgaaGreatDoorQL25
set_option maxHeartbeats 4000000
set_option maxRecDepth 100000
open Go renaming World->Wj,Value->Wx,TypeId->Ww
namespace Go.Proofs.Qw
open Tryz
section
open Go.RowKit
def dD (P:List PlL):List Wx:=P.flatMap fun l=>[l.v,.int .i64 l.page,.int .i64 l.fin,.bool l.gone]
def fA (T:List PlT):List Wx:=T.flatMap fun t=>[.string t.text,.int .i64 t.ls,.int .i64 t.pg]
theorem qD (P:List PlL)(l:PlL):dD (P++[l])=dD P++[l.v,.int .i64 l.page,.int .i64 l.fin,.bool l.gone]:=by simp [dD]
theorem qE (T:List PlT)(t:PlT):fA (T++[t])=fA T++[.string t.text,.int .i64 t.ls,.int .i64 t.pg]:=by simp [fA]
structure aM (B:Nat)(w:Wj)(k:Nat)(P:List PlL)(T:List PlT)(vL vT:Wx):Prop where
 c3:w.cell? ⟨k,3,none⟩=some vL
 c4:w.cell? ⟨k,4,none⟩=some vT
 fz:∀j,w.frozen? ⟨k,j,none⟩=false
 rowL:w.ownsRow B 148 4 vL P.length (dD P)
 rowT:w.ownsRow B 151 3 vT T.length (fA T)
 its:∀l∈P,w.ownsRow B 41 3 l.v l.its.length (an l.its)
 kL:vL.ownBlock≠some k
 kT:vT.ownBlock≠some k
 kI:∀l∈P,l.v.ownBlock≠some k
def TyB (w:Wj)(b:Nat)(T:Ww):Prop:=∃a z,w.heap[b]?=some (.cells a T z)
theorem iB {w:Wj}{B n a:Nat}{e:Ww}{v:Wx}{xs:List Wx}(h:w.ownsRow B e a v n xs){g:Nat}(hg:v.ownBlock=some g):TyB w g e:=by
 obtain ⟨-,⟨rfl,-⟩|⟨g',cap,cur,rfl,-,hb,-⟩⟩:=h
 .simp [Value.ownBlock] at hg
 .simp only [Value.ownBlock,oI] at hg;subst hg;exact ⟨_,_,hb⟩
theorem TyB.ne {w:Wj}{b:Nat}{T U:Ww}(h:TyB w b T)(h2:TyB w b U):T=U:=by
 obtain ⟨c,z,h⟩:=h;obtain ⟨c',z',h2⟩:=h2;rw [h] at h2;simp only [oI,Obj.cells.injEq] at h2;exact h2.2.1
theorem dH {w w':Wj}{B n a:Nat}{e:Ww}{v:Wx}{xs:List Wx}(h:w.ownsRow B e a v n xs)(hb:∀g,v.ownBlock=some g->w'.heap[g]?=w.heap[g]?):w'.ownsRow B e a v n xs:=by
 obtain ⟨h1,h2|⟨g,cap,b,rfl,h3,h4,h5⟩⟩:=h
 .exact ⟨h1,Or.inl h2⟩
 .exact ⟨h1,Or.inr ⟨g,cap,b,rfl,h3,(hb g rfl).trans h4,h5⟩⟩
section
variable {B k:Nat} {w w':Wj} {P:List PlL} {T:List PlT} {vL vT:Wx}
theorem aM.keep (h:aM B w k P T vL vT)(h3:w'.cell? ⟨k,3,none⟩=w.cell? ⟨k,3,none⟩)(h4:w'.cell? ⟨k,4,none⟩=w.cell? ⟨k,4,none⟩)(hf:∀j,w'.frozen? ⟨k,j,none⟩=w.frozen? ⟨k,j,none⟩)
  (hb:∀g U,g≠k->TyB w g U->U=148\/U=151\/U=41->w'.heap[g]?=w.heap[g]?):aM B w' k P T vL vT:=
 ⟨h3.trans h.c3,h4.trans h.c4,fun j=>(hf j).trans (h.fz j),dH h.rowL fun g hg=>hb g _ (fun e=>h.kL (e▸hg)) (iB h.rowL hg) (.inl rfl),dH h.rowT fun g hg=>hb g _ (fun e=>h.kT (e▸hg)) (iB h.rowT hg) (.inr (.inl rfl)),fun l hl=>dH (h.its l hl) fun g hg=>hb g _ (fun e=>h.kI l hl (e▸hg)) (iB (h.its l hl) hg) (.inr (.inr rfl)),h.kL,h.kT,h.kI⟩
theorem aM.lt (h:aM B w k P T vL vT):k<w.heap.size:=bC w _ h.c3
theorem TyB.lt {b:Nat}{U:Ww}(h:TyB w b U):b<w.heap.size:=by obtain ⟨c,z,h⟩:=h;exact (eS h).1
theorem aM.below (h:aM B w k P T vL vT)(hb:Below w.heap.size w w'):aM B w' k P T vL vT:=
 h.keep (cB (hb.block k h.lt)) (cB (hb.block k h.lt)) (fun _=>fB (hb.block k h.lt)) fun g _ _ ht _=>hb.block g ht.lt
theorem aM.frame {sl:Wx}{R:List br}{nx tm:Int}(h:aM B w k P T vL vT)(H:ax B w k sl R nx tm)(F:bg w w' k sl R):aM B w' k P T vL vT:=
 h.keep (F.cells 3 (by omega)) (F.cells 4 (by omega)) F.frozen fun g U hgk ht a=>by
  have hn:=H.notRow ht (by rcases a with rfl|rfl|rfl<;>decide) (by rcases a with rfl|rfl|rfl<;>decide);exact F.block g ht.lt hgk hn.1 hn.2
structure PFr (B k:Nat)(w w':Wj):Prop where
 os:w'.os=w.os
 tape:w'.tape=w.tape
 output:w'.output=w.output
 size:w.heap.size<=w'.heap.size
 low:∀b,b<B->b<w.heap.size->w'.heap[b]?=w.heap[b]?
 ans:∀g,g≠k->TyB w g 36->w'.heap[g]?=w.heap[g]?
 cells:∀j,6<=j->w'.cell? ⟨k,j,none⟩=w.cell? ⟨k,j,none⟩
 frozen:∀j,w'.frozen? ⟨k,j,none⟩=w.frozen? ⟨k,j,none⟩
theorem PFr.refl:PFr B k w w:=⟨rfl,rfl,rfl,lR _,fun _ _ _=>rfl,fun _ _ _=>rfl,fun _ _=>rfl,fun _=>rfl⟩
theorem TyB.same {b:Nat}{U:Ww}(h:TyB w b U)(e:w'.heap[b]?=w.heap[b]?):TyB w' b U:=by
 obtain ⟨c,z,h⟩:=h;exact ⟨c,z,e.trans h⟩
theorem PFr.trans {w'':Wj}(h:PFr B k w w')(h':PFr B k w' w''):PFr B k w w'':=
 ⟨h'.os.trans h.os,h'.tape.trans h.tape,h'.output.trans h.output,lT h.size h'.size,fun b h1 h2=>(h'.low b h1 (lL h2 h.size)).trans (h.low b h1 h2),fun g h1 h2=>(h'.ans g h1 (h2.same (h.ans g h1 h2))).trans (h.ans g h1 h2),fun j a=>(h'.cells j a).trans (h.cells j a),fun j=>(h'.frozen j).trans (h.frozen j)⟩
theorem PFr.below (hk:k<w.heap.size)(hb:Below w.heap.size w w'):PFr B k w w':=
 ⟨hb.os,hb.tape,hb.output,hb.size,fun b _ h=>hb.block b h,fun g _ h=>hb.block g h.lt,fun _ _=>cB (hb.block k hk),fun _=>fB (hb.block k hk)⟩
theorem PFr.grown {row:Option Nat}(hk:k<w.heap.size)(hg:w.grownBy w' row)(a:row≠some k)(d:∀b,row=some b->B<=b)(c:∀b,row=some b->∃U,TyB w b U/\U≠36):PFr B k w w':=
 ⟨hg.os,hg.tape,hg.output,hg.size,fun b h1 h2=>hg.block b h2 (fun e=>by have:=d b e.symm;omega),fun g _ h=>hg.block g h.lt (fun e=>by obtain ⟨U,h1,h2⟩:=c g e.symm;exact h2 (h1.ne h)),fun _ _=>cB (hg.block k hk (fun e=>a e.symm)),fun _=>fB (hg.block k hk (fun e=>a e.symm))⟩
theorem PFr.set (hk:B<=k)(j:Nat)(hj:j<6)(v:Wx):PFr B k w (w.setCell ⟨k,j,none⟩ v):=
 ⟨rfl,rfl,rfl,by simp,fun b h1 _=>bS _ _ _ _ (show b≠k by omega),fun g hg _=>bS _ _ _ _ hg,fun i hi=>cO w ⟨k,j,none⟩ ⟨k,i,none⟩ v (fun e=>by have:=congrArg Addr.off e;simp only at this;omega),fun i=>by simp⟩
theorem PFr.ofR {sl:Wx}{R:List br}{nx tm:Int}(hk:B<=k)(H:ax B w k sl R nx tm)(F:bg w w' k sl R):PFr B k w w':=
 ⟨F.os,F.tape,F.output,F.size,fun b h1 h2=>F.block b h2 (by omega) (fun e=>by have:=(H.row.lt b e).1;omega) (fun x hx e=>by have:=((H.vers x hx).lt b e).1;omega),fun g hg h=>by
  have hn:=H.notRow h (by decide) (by decide);exact F.block g h.lt hg hn.1 hn.2,fun j hj=>F.cells j (by omega),F.frozen⟩
theorem PFr.to (h:PFr B k w w'){W:Wj}(hb:Below B W w)(hs:B<=w.heap.size):Below B W w':=
 ⟨h.os.trans hb.os,h.tape.trans hb.tape,h.output.trans hb.output,lT hb.size h.size,fun b hlt=>(h.low b hlt (by omega)).trans (hb.block b hlt)⟩
theorem FQ {b:Nat}{x y z:Wx}(h:aQ w b x y z)(o:Nat)(v:Wx)(ho:3<=o):aQ (w.setCell ⟨b,o,none⟩ v) b x y z:=by
 have hne:∀j,j<3->(w.setCell ⟨b,o,none⟩ v).cell? ⟨b,j,none⟩=w.cell? ⟨b,j,none⟩:=fun j hj=>cO w ⟨b,o,none⟩ ⟨b,j,none⟩ v (fun e=>by have:=congrArg Addr.off e;simp only at this;omega)
 exact ⟨(hne 0 (by omega)).trans h.c0,(hne 1 (by omega)).trans h.c1,(hne 2 (by omega)).trans h.c2,fun j=>fs (h.fz j)⟩
theorem ax.far {sl:Wx}{R:List br}{nx tm:Int}(H:ax B w k sl R nx tm)(o:Nat)(v:Wx)(ho:3<=o):ax B (w.setCell ⟨k,o,none⟩ v) k sl R nx tm:=
 ⟨FQ H.cells o v ho,H.row.kept (cR w k o v) (Or.inr H.apart),fun e he=>(H.vers e he).kept (cR w k o v) (Or.inr (H.apartV e he)),H.apart,H.apartV,H.apartE,H.pw⟩
theorem ax.other {sl:Wx}{R:List br}{nx tm:Int}{row:Option Nat}{U:Ww}(H:ax B w k sl R nx tm)(hg:w.grownBy w' row)(a:row≠some k)(c:∀b,row=some b->TyB w b U)(h1:U≠154)(h2:U≠145):ax B w' k sl R nx tm:=by
 refine H.grown hg a ?_ fun e he=>?_
 all_goals
  cases hr:row with
  |none=>exact none_or _
  |some b=>
   have hn:=H.notRow (c b hr) h1 h2;first|exact Or.inr hn.1|exact Or.inr (hn.2 e he)
theorem jv {n a:Nat}{e U:Ww}{v:Wx}{xs:List Wx}{row:Option Nat}(h:w.ownsRow B e a v n xs)(hg:w.grownBy w' row)(d:∀b,row=some b->TyB w b U)(f:U≠e):w'.ownsRow B e a v n xs:=
 dH h fun g c=>hg.block g (h.lt g c).2 fun e2=>f ((d g e2.symm).ne (iB h c))
theorem iC {n a:Nat}{e:Ww}{v:Wx}{xs:List Wx}(h:w.ownsRow B e a v n xs)(hk:v.ownBlock≠some k)(j:Nat)(u:Wx):(w.setCell ⟨k,j,none⟩ u).ownsRow B e a v n xs:=
 dH h fun g hg=>bS _ _ _ _ fun e=>hk (by rw [hg];exact congrArg some e)
theorem wF {j i:Nat}{v:Wx}(hji:j≠i)(u:Wx)(h:w.cell? ⟨k,i,none⟩=some v):(w.setCell ⟨k,j,none⟩ u).cell? ⟨k,i,none⟩=some v:=
 (cO w ⟨k,j,none⟩ ⟨k,i,none⟩ u (fun e=>by have:=congrArg Addr.off e;simp only at this;omega)).trans h
theorem aM.pushT {sl:Wx}{R:List br}{nx tm:Int}{w1 w3:Wj}{g cap:Nat}{t:PlT}(hP:aM B w k P T vL vT)(H:ax B w k sl R nx tm)(d:B<=k)(b1:Below w.heap.size w w1)
  (ho:w3.ownsRow B 151 3 (.slice (some ⟨g,0,none⟩) (T.length+1) cap) (T.length+1) (fA T++[.string t.text,.int .i64 t.ls,.int .i64 t.pg])) (hg:w1.grownBy w3 vT.ownBlock) (hgg:vT.ownBlock=some g\/w.heap.size<=g):
  ax B (w3.setCell ⟨k,4,none⟩ (.slice (some ⟨g,0,none⟩) (T.length+1) cap)) k sl R nx tm/\aM B (w3.setCell ⟨k,4,none⟩ (.slice (some ⟨g,0,none⟩) (T.length+1) cap)) k P (T++[t]) vL (.slice (some ⟨g,0,none⟩) (T.length+1) cap)/\PFr B k w (w3.setCell ⟨k,4,none⟩ (.slice (some ⟨g,0,none⟩) (T.length+1) cap)):=by
 have hk:=hP.lt;have hgk:g≠k:=by
  rcases hgg with h|h
  .intro e;exact hP.kT (e▸h)
  .omega
 have P1:=hP.below b1;have hk1:=P1.lt;have a:∀b,vT.ownBlock=some b->TyB w1 b 151:=fun b hb=>iB P1.rowT hb
 have c:(Value.slice (some ⟨g,0,none⟩) (T.length+1) cap).ownBlock≠some k:=by simpa [Value.ownBlock] using hgk
 refine ⟨((H.below b1).other hg hP.kT a (by decide) (by decide)).far 4 _ (by omega),⟨wF (by omega) _ (hg.cell P1.c3 (fun e=>hP.kT e.symm)),cs (hg.cell P1.c4 (fun e=>hP.kT e.symm)),fun j=>fs ((bB hg ⟨k,j,none⟩ hk1 (fun e=>hP.kT e.symm)).trans (P1.fz j)),iC (jv P1.rowL hg a (by decide)) hP.kL 4 _,?_,fun l hl=>iC (jv (P1.its l hl) hg a (by decide)) (hP.kI l hl) 4 _,hP.kL,c,hP.kI⟩,((PFr.below hk b1).trans (PFr.grown hk1 hg hP.kT (fun b hb=>(P1.rowT.lt b hb).1) fun b hb=>⟨_,a b hb,by decide⟩)).trans (PFr.set d 4 (by omega) _)⟩;rw [qE,lP,lS];exact iC ho c 4 _
theorem aM.pushL {sl:Wx}{R:List br}{nx tm:Int}{w1 w3:Wj}{g cap:Nat}{l:PlL}(hP:aM B w k P T vL vT)(H:ax B w k sl R nx tm)(f:B<=k)(b1:Below w.heap.size w w1)(i:w1.ownsRow B 41 3 l.v l.its.length (an l.its))(d:l.v.ownBlock≠some k)
  (ho:w3.ownsRow B 148 4 (.slice (some ⟨g,0,none⟩) (P.length+1) cap) (P.length+1) (dD P++[l.v,.int .i64 l.page,.int .i64 l.fin,.bool l.gone])) (hg:w1.grownBy w3 vL.ownBlock) (hgg:vL.ownBlock=some g\/w.heap.size<=g):
  ax B (w3.setCell ⟨k,3,none⟩ (.slice (some ⟨g,0,none⟩) (P.length+1) cap)) k sl R nx tm/\aM B (w3.setCell ⟨k,3,none⟩ (.slice (some ⟨g,0,none⟩) (P.length+1) cap)) k (P++[l]) T (.slice (some ⟨g,0,none⟩) (P.length+1) cap) vT/\PFr B k w (w3.setCell ⟨k,3,none⟩ (.slice (some ⟨g,0,none⟩) (P.length+1) cap)):=by
 have hk:=hP.lt;have hgk:g≠k:=by
  rcases hgg with h|h
  .intro e;exact hP.kL (e▸h)
  .omega
 have P1:=hP.below b1;have hk1:=P1.lt;have a:∀b,vL.ownBlock=some b->TyB w1 b 148:=fun b hb=>iB P1.rowL hb
 have c:(Value.slice (some ⟨g,0,none⟩) (P.length+1) cap).ownBlock≠some k:=by simpa [Value.ownBlock] using hgk
 refine ⟨((H.below b1).other hg hP.kL a (by decide) (by decide)).far 3 _ (by omega),⟨cs (hg.cell P1.c3 (fun e=>hP.kL e.symm)),wF (by omega) _ (hg.cell P1.c4 (fun e=>hP.kL e.symm)),fun j=>fs ((bB hg ⟨k,j,none⟩ hk1 (fun e=>hP.kL e.symm)).trans (P1.fz j)),?_,iC (jv P1.rowT hg a (by decide)) hP.kT 3 _,fun x hx=>?_,c,hP.kT,fun x hx=>?_⟩,((PFr.below hk b1).trans (PFr.grown hk1 hg hP.kL (fun b hb=>(P1.rowL.lt b hb).1) fun b hb=>⟨_,a b hb,by decide⟩)).trans (PFr.set f 3 (by omega) _)⟩
 .rw [qD,lP,lS];exact iC ho c 3 _
 .rcases List.mem_append.1 hx with h|h
  .exact iC (jv (P1.its x h) hg a (by decide)) (hP.kI x h) 3 _
  .rw [List.mem_singleton.1 h];exact iC (jv i hg a (by decide)) d 3 _
 .rcases List.mem_append.1 hx with h|h
  .exact hP.kI x h
  .rw [List.mem_singleton.1 h];exact d
theorem En (h:w.ownsRow B 148 4 vL P.length (dD P))(i:Nat)(b:i<P.length):∃g cap,vL=.slice (some ⟨g,0,none⟩) P.length cap/\B<=g/\g<w.heap.size/\w.cell? ⟨g,i * 4,none⟩=some P[i].v/\w.cell? ⟨g,i * 4+1,none⟩=some (.int .i64 P[i].page)/\w.cell? ⟨g,i * 4+2,none⟩=some (.int .i64 P[i].fin)/\w.cell? ⟨g,i * 4+3,none⟩=some (.bool P[i].gone):=by
 obtain ⟨g,cap,rfl,h1,h2,h3⟩:=cP h (by omega);have hx:∀j,j<4->w.cell? ⟨g,i * 4+j,none⟩=[P[i].v,.int .i64 P[i].page,.int .i64 P[i].fin,.bool P[i].gone][j]?:=fun j a=>by
  have:=h.cellAt (i * 4+j) (by omega);rw [dD,cu 4 _ (fun _=>rfl) P i j b a] at this;exact this
 exact ⟨g,cap,rfl,h1,h2,hx 0 (by omega),hx 1 (by omega),hx 2 (by omega),hx 3 (by omega)⟩
theorem GM (h:w.ownsRow B 151 3 vT T.length (fA T))(i:Nat)(b:i<T.length):∃g cap,vT=.slice (some ⟨g,0,none⟩) T.length cap/\B<=g/\g<w.heap.size/\w.cell? ⟨g,i * 3,none⟩=some (.string T[i].text)/\w.cell? ⟨g,i * 3+1,none⟩=some (.int .i64 T[i].ls)/\w.cell? ⟨g,i * 3+2,none⟩=some (.int .i64 T[i].pg):=by
 obtain ⟨g,cap,rfl,h1,h2,h3⟩:=cP h (by omega);have hx:∀j,j<3->w.cell? ⟨g,i * 3+j,none⟩=[.string T[i].text,.int .i64 T[i].ls,.int .i64 T[i].pg][j]?:=fun j a=>by
  have:=h.cellAt (i * 3+j) (by omega);rw [fA,cu 3 _ (fun _=>rfl) T i j b a] at this;exact this
 exact ⟨g,cap,rfl,h1,h2,hx 0 (by omega),hx 1 (by omega),hx 2 (by omega)⟩
def setFin (P:List PlL)(i:Nat)(x:Int):List PlL:=match P[i]? with
 |some l=>P.set i {l with fin:=x}
 |none=>P
theorem iD {i:Nat}(a:i<P.length)(x:Int):setFin P i x=P.set i {P[i] with fin:=x}:=by
 unfold setFin;rw [eL a]
theorem aM.setFin {sl:Wx}{R:List br}{nx tm:Int}{g cap i:Nat}(hP:aM B w k P T (.slice (some ⟨g,0,none⟩) P.length cap) vT)(H:ax B w k sl R nx tm)(d:i<P.length)(x:Int):
  ax B (w.setCell ⟨g,i * 4+2,none⟩ (.int .i64 x)) k sl R nx tm/\aM B (w.setCell ⟨g,i * 4+2,none⟩ (.int .i64 x)) k (setFin P i x) T (.slice (some ⟨g,0,none⟩) P.length cap) vT/\PFr B k w (w.setCell ⟨g,i * 4+2,none⟩ (.int .i64 x)):=by
 have hk:=hP.lt;obtain ⟨h1,hg⟩:=hP.rowL.stored (i * 4+2) (.int .i64 x);have c:∀b,some g=some b->TyB w b 148:=fun b hb=>iB hP.rowL (by rw [<-hb];rfl)
 have hgk:some g≠some k:=hP.kL;have hc:∀j,(w.setCell ⟨g,i * 4+2,none⟩ (.int .i64 x)).cell? ⟨k,j,none⟩=w.cell? ⟨k,j,none⟩:=fun j=>cB (a:=⟨k,j,none⟩) (hg.block k hk (fun e=>hgk e.symm))
 have hset:dD (Go.Proofs.Qw.setFin P i x)=(dD P).set (i * 4+2) (.int .i64 x):=by
  rw [iD d];exact wh 4 _ (fun _=>rfl) P i 2 _ _ (by omega) d rfl
 have hlen:(Go.Proofs.Qw.setFin P i x).length=P.length:=by rw [iD d,List.length_set]
 have hmem:∀l∈Go.Proofs.Qw.setFin P i x,∃l'∈P,l.v=l'.v/\l.its=l'.its:=fun l hl=>by
  rw [iD d] at hl;rcases List.mem_or_eq_of_mem_set hl with h|rfl
  .exact ⟨l,h,rfl,rfl⟩
  .exact ⟨P[i],List.getElem_mem d,rfl,rfl⟩
 refine ⟨H.other hg hgk c (by decide) (by decide),⟨(hc 3).trans hP.c3,(hc 4).trans hP.c4,fun j=>(fB (a:=⟨k,j,none⟩) (hg.block k hk (fun e=>hgk e.symm))).trans (hP.fz j),?_,jv hP.rowT hg c (by decide),fun l hl=>?_,hP.kL,hP.kT,fun l hl=>?_⟩,PFr.grown hk hg hgk (fun b hb=>(hP.rowL.lt b (by rw [<-hb];rfl)).1) fun b hb=>⟨_,c b hb,by decide⟩⟩
 .rw [hset,hlen];exact h1
 .obtain ⟨l',h2,h3,h4⟩:=hmem l hl;rw [h3,h4];exact jv (hP.its l' h2) hg c (by decide)
 .obtain ⟨l',h2,h3,-⟩:=hmem l hl;rw [h3];exact hP.kI l' h2
end
theorem uY {B k:Nat}{sl vL vT:Wx}{R:List br}{nx tm:Int}{P:List PlL}{T:List PlT}(w:Wj)(H:ax B w k sl R nx tm)(hP:aM B w k P T vL vT)(i:Nat)(a:i<P.length):
  Calls Yq.prog 87 #[.pointer (some ⟨k,0,none⟩),.int .i64 i] w fun e w'=>e=.returned (.bool (P[i].isOpen tm))/\Below w.heap.size w w':=by
 obtain ⟨g,cap,rfl,-,hg,-,-,e2,e3⟩:=En hP.rowL i a;have c2:=H.cells.c2;have c3:=hP.c3;have hii:(i:Int)<(P.length:Int):=by omega
 clear H hP;unfold PlL.isOpen;generalize P[i].gone=gn at *;generalize P[i].fin=fn at *;cases gn
 .go_enter (Yq.nq func87),ntmps87;go_wp2_with fail
  go_quiet (fail)
  go_wp2_with fail
  go_ret;exact ⟨rfl,below_drewN (bR _ _) _⟩
 .go_enter (Yq.nq func87),ntmps87;go_wp2_with fail
  go_quiet (fail)
  go_wp2_with fail
  go_ret;exact ⟨rfl,below_drewN (bR _ _) _⟩
theorem BH (tm:Int)(P:List PlL)(i:Nat)(h:i<P.length):((P.take (i+1)).filter (PlL.isOpen tm)).length=((P.take i).filter (PlL.isOpen tm)).length+if P[i].isOpen tm then 1 else 0:=by
 rw [tS h,List.filter_append,lP];congr 1;by_cases hb:P[i].isOpen tm=true<;>simp [hb]
theorem BI {B k:Nat}{sl vL vT:Wx}{R:List br}{nx tm:Int}{P:List PlL}{T:List PlT}(w:Wj)(H:ax B w k sl R nx tm)(hP:aM B w k P T vL vT)(hn:P.length<=2199023255340):
  Calls Yq.prog 84 #[.pointer (some ⟨k,0,none⟩)] w fun e w'=>e=.returned (.int .i64 ((P.filter (PlL.isOpen tm)).length:Int))/\Below w.heap.size w w':=by
 obtain ⟨d,f,rfl,-⟩:=aE hP.rowL;have c3:=hP.c3;have HH:Hid (ax B w k sl R nx tm/\aM B w k P T (.slice d P.length f) vT):=⟨H,hP⟩;clear H hP;go_enter (Yq.nq func84),ntmps84;go_wp2_with fail
 go_loopw [3,4] (fun s3 s4 wr=>∃i:Nat,i<=P.length/\s3=.int .i64 (((P.take i).filter (PlL.isOpen tm)).length:Int)/\s4=.int .i64 i/\Below w.heap.size w wr) (fun _ s4 _=>P.length-(intOf s4).toNat)
 case atStart=>exact ⟨0,Nat.zero_le _,rfl,rfl,bR _ _⟩
 case round=>
  obtain ⟨i,hin,rfl,rfl,hb⟩:=hrel;have c3':=ai hb c3;have HB:Hid (Below w.heap.size w wr):=hb;have hle:((P.take i).filter (PlL.isOpen tm)).length<=i:=lT (List.length_filter_le _ _) (by rw [tL];omega);by_cases a:i<P.length
  .have hii:(i:Int)<(P.length:Int):=by omega
   have HC:=uY wr (HH.out.1.below hb) (HH.out.2.below hb) i a;have HT:Hid (((P.take (i+1)).filter (PlL.isOpen tm)).length=((P.take i).filter (PlL.isOpen tm)).length+if P[i].isOpen tm then 1 else 0):=BH tm P i a;generalize P[i].isOpen tm=bo at *;generalize ((P.take i).filter (PlL.isOpen tm)).length=m at *;clear hb;go_wp2_with fail
   refine HC.mono ?_;rintro e w1 ⟨rfl,b1⟩;have b:Hid (Below w.heap.size w w1):=HB.out.trans (b1.mono HB.out.size);clear HC b1;cases bo
   .go_wp2_with fail
    refine ⟨⟨i+1,a,by rw [HT.out];go_num,by go_num,b.out⟩,by simp [intOf];omega⟩
   .go_wp2_with fail
    refine ⟨⟨i+1,a,by rw [HT.out];go_num,by go_num,b.out⟩,by simp [intOf];omega⟩
  .have c:i=P.length:=by omega
   subst c;have HT:Hid (P.take P.length=P):=List.take_length;go_wp2_with fail
   go_ret;exact ⟨pq (congrArg (fun l=>((List.filter (PlL.isOpen tm) l).length:Int)) HT.out),HB.out⟩
theorem Yq.infoRtok:(Yq.prog.info? 151).map (fun i=>(i.zero,i.size,i.bytes))=some (some (.agg #[.string ⟨#[]⟩,.int .i64 0,.int .i64 0]),3,32):=by kernel_rfl
theorem Yq.infoRlst:(Yq.prog.info? 148).map (fun i=>(i.zero,i.size,i.bytes))=some (some (.agg #[.slice none 0 0,.int .i64 0,.int .i64 0,.bool false]),4,48):=by kernel_rfl
theorem DP (w:Wj)(a b c:Wx)(T:Ww):∀j u,[a,b,c][j]?=some u->(w.alloc (.cells #[a,b,c] T)).cell? ((⟨w.heap.size,0,none⟩:Addr).add j)=some u:=by
 intro j u d;rw [Addr.add_lit,zA,cA (w:=w) _ _ w.heap.size j rfl];rw [<-d,<-gT]
theorem yI {B k:Nat}{sl vL vT:Wx}{R:List br}{nx tm:Int}{P:List PlL}{T:List PlT}(w:Wj)(H:ax B w k sl R nx tm)(hP:aM B w k P T vL vT)(r:B<=k)(hn:T.length<=2199023255340)(a:ByteArray)(d pg:Nat)(hne:a≠⟨#[]⟩)(y:∀t∈T,(t.ls=d/\t.pg=pg)↔t.text=a):
  Calls Yq.prog 110 #[.pointer (some ⟨k,0,none⟩),.string a,.int .i64 d,.int .i64 pg] w fun e w'=>e=.returned (.bool true)/\∃o,ax B w' k sl R nx tm/\aM B w' k P (T++[⟨a,d,pg⟩]) vL o/\PFr B k w w':=by
 obtain ⟨i0,s,m,q,n⟩:=info_parts Yq.infoRtok;obtain ⟨f,j,rfl,-⟩:=aE hP.rowT;have c4:=hP.c4;have hz:=kU hne;have HH:Hid (ax B w k sl R nx tm/\aM B w k P T vL (.slice f T.length j)/\B<=k/\∀t∈T,(t.ls=d/\t.pg=pg)↔t.text=a):=⟨H,hP,r,y⟩;have hkw:=hP.lt;clear H hP y;go_enter (Yq.nq func110),ntmps110;go_wp2_with fail
 go_loopw [9] (fun s9 wr=>∃i:Nat,i<=T.length/\s9=.int .i64 i/\Below w.heap.size w wr) (fun s9 _=>T.length-(intOf s9).toNat)
 case atStart=>exact ⟨0,Nat.zero_le _,rfl,bR _ _⟩
 case round=>
  obtain ⟨i,hin,rfl,hb⟩:=hrel;have c4':=ai hb c4;have HB:Hid (Below w.heap.size w wr):=hb;by_cases c:i<T.length
  .have hii:(i:Int)<(T.length:Int):=by omega
   obtain ⟨g,cap,he,-,-,e0,e1,e2⟩:=GM HH.out.2.1.rowT i c;cases he;replace e0:=ai hb e0;replace e1:=ai hb e1;replace e2:=ai hb e2;have hq:=HH.out.2.2.2 _ (List.getElem_mem c);have HA:Hid (∀X:Obj,Below w.heap.size w (wr.alloc X)):=fun X=>hb.alloc hb.size _
   generalize T[i]=t at *;obtain ⟨z,x,A⟩:=t;simp only at e0 e1 e2 hq;clear hb;by_cases ht:z=a
   .obtain ⟨rfl,rfl⟩:=hq.2 ht;subst ht;have hs:=wz z;clear hq;go_wp2_with fail
    exact ⟨⟨i+1,c,by go_num,HA.out _⟩,by simp [intOf];omega⟩
   .have hs:=wA ht;by_cases hl:x=d
    .have hp:¬A=pg:=fun e=>ht (hq.1 ⟨hl,e⟩)
     subst hl;have hp':((A:Int)==(pg:Int))=false:=by simp;omega
     clear hq hp;go_wp2_with fail
     exact ⟨⟨i+1,c,by go_num,HA.out _⟩,by simp [intOf];omega⟩
    .have hl':((x:Int)==(d:Int))=false:=by simp;omega
     clear hq hl;go_wp2_with fail
     exact ⟨⟨i+1,c,by go_num,HA.out _⟩,by simp [intOf];omega⟩
  .have p:i=T.length:=by omega
   subst p;have v:Hid (∀X:Obj,(wr.alloc X).ownsRow B 151 3 (.slice f T.length j) T.length (fA T)):=fun X=>(HH.out.2.1.below hb).rowT.alloc X
   have HX:Hid (∀ (X:Obj),Below w.heap.size w (wr.alloc X)):=fun X=>hb.alloc hb.size _
   have hBw:B<=wr.heap.size:=by have:=hb.size;have:=HH.out.2.2.1;omega
   have hsz:=hb.size;have l:Hid (∀ (X:Obj) (w3:Wj),(wr.alloc X).grownBy w3 (Value.slice f T.length j).ownBlock->w3.cell? ⟨k,4,none⟩=some (.slice f T.length j)/\w3.frozen? ⟨k,4,none⟩=false):=fun X w3 b=>by
    have P1:=HH.out.2.1.below (HX.out X);exact ⟨b.cell P1.c4 (fun e=>P1.kT e.symm),(bB b ⟨k,4,none⟩ P1.lt (fun e=>P1.kT e.symm)).trans (P1.fz 4)⟩
   clear hb;go_wp2_with (at_builtin;go_loud (refine wpList_append_lies _ rfl _ _ 72 rfl B 151 i0 _ 3 32 (Yq.u underlying72) s m q n rfl (by decide) _ T.length _ rfl (v.out _) ⟨wr.heap.size,0,none⟩ 1 1 [.string a,.int .i64 d,.int .i64 pg] rfl rfl (DP wr _ _ _ _) (by simp [Value.oneCell']) (by omega) (by simp only [maxLen];omega) (by omega) (by simp;omega) (wr.heap.size+1) (by simp) ?_;intro g cap w3 ho3 b hgg hlt3;obtain ⟨y0,y1⟩:=l.out _ w3 b))
   go_ret;refine ⟨rfl,_,HH.out.2.1.pushT (t:=⟨a,d,pg⟩) HH.out.1 HH.out.2.2.1 (HX.out _) ho3 b ?_⟩;rcases hgg with h|h
   .exact .inl h
   .exact .inr (by omega)
def FS (b:Wx)(a:ByteArray):Wx:=.agg #[.int .i64 0,.int .i64 0,.string ⟨#[]⟩,b,.string a]
structure du (w:Wj)(b:Nat)(x0 x1 x2 x3 x4:Wx):Prop where
 c0:w.cell? ⟨b,0,none⟩=some x0
 c1:w.cell? ⟨b,1,none⟩=some x1
 c2:w.cell? ⟨b,2,none⟩=some x2
 c3:w.cell? ⟨b,3,none⟩=some x3
 c4:w.cell? ⟨b,4,none⟩=some x4
theorem du.block {w w':Wj}{b:Nat}{x0 x1 x2 a x4:Wx}(h:du w b x0 x1 x2 a x4)(e:w'.heap[b]?=w.heap[b]?):du w' b x0 x1 x2 a x4:=
 ⟨(cB e).trans h.c0,(cB e).trans h.c1,(cB e).trans h.c2,(cB e).trans h.c3,(cB e).trans h.c4⟩
theorem du.on {w w':Wj}{b:Nat}{x0 x1 x2 a x4:Wx}(h:du w b x0 x1 x2 a x4)(hb:Below w.heap.size w w'):du w' b x0 x1 x2 a x4:=
 h.block (hb.block b (bC w _ h.c0))
theorem po (w:Wj)(x0 x1 x2 a x4:Wx)(T:Ww):du (w.alloc (.cells #[x0,x1,x2,a,x4] T)) w.heap.size x0 x1 x2 a x4:=
 ⟨by rw [cA (w:=w) _ _ w.heap.size 0 rfl];rfl,by rw [cA (w:=w) _ _ w.heap.size 1 rfl];rfl,by rw [cA (w:=w) _ _ w.heap.size 2 rfl];rfl,by rw [cA (w:=w) _ _ w.heap.size 3 rfl];rfl,by rw [cA (w:=w) _ _ w.heap.size 4 rfl];rfl⟩
def BJ (B k:Nat)(sl:Wx)(R:List br)(nx tm:Int)(P:List PlL)(T:List PlT)(w:Wj)(e:Ending)(w':Wj):Prop:=
 e=.returned (.bool true)/\∃vL vT,ax B w' k sl R nx tm/\aM B w' k P T vL vT/\PFr B k w w'
theorem DQ {w:Wj}{B:Nat}{g cap:Nat}{its:List ItD}(h:w.ownsRow B 41 3 (.slice (some ⟨g,0,none⟩) its.length cap) its.length (an its))(a b:Nat)(d:a<=b)(hb:b<=its.length)(c:Nat):Hb w (.slice (some ⟨g,a * 3,none⟩) (b-a) c) ((its.take b).drop a):=by
 have hl:((its.take b).drop a).length=b-a:=by rw [lD,tL];omega
 refine ⟨_,c,by rw [hl],fun _=>⟨g,a * 3,rfl,fun j f=>?_⟩⟩;rw [hl] at f;have h1:=h.cellAt (a * 3+j) (by omega);rw [h1];have e1:an its=an (its.take a)++(an ((its.take b).drop a)++an (its.drop b)):=by
  have e:its=its.take a++((its.take b).drop a++its.drop b):=by
   conv=>lhs;rw [<-List.take_append_drop b its,<-List.take_append_drop a (its.take b)]
   rw [List.take_take,Nat.min_eq_left d,pA]
  conv=>lhs;rw [e]
  unfold an;rw [List.flatMap_append,List.flatMap_append]
 have l1:(an (its.take a)).length=a * 3:=by rw [eb,tL,Nat.min_eq_left (by omega)]
 rw [e1,aR (by omega),l1,Nat.add_sub_cancel_left,aL (by rw [eb,hl];exact f)]
theorem yJ {B k:Nat}{sl vL vT:Wx}{R:List br}{nx tm:Int}{P:List PlL}{T:List PlT}(w:Wj)(H:ax B w k sl R nx tm)(hP:aM B w k P T vL vT)(N:B<=k)(hn:P.length<=2199023255340/\T.length<=2199023255340)(htm:0<=tm/\tm<=1000000000000000000)(i j:Nat)(x:i<P.length)
  (hl:1<=P[i].page/\P[i].page<=20/\P[i].its.length<=200/\j * P[i].page<P[i].its.length) (r:Wx) (a:ByteArray) (C:∀w',PFr B k w w'->j3 w' r ((P[i].its.take ((j+1) * P[i].page)).drop (j * P[i].page)))
  (htk:if (j+1) * P[i].page<P[i].its.length then a≠⟨#[]⟩/\∀t∈T,(t.ls=i/\t.pg=j+1)↔t.text=a else a=⟨#[]⟩):
  Calls Yq.prog 86 #[.pointer (some ⟨k,0,none⟩),FS r a,.int .i64 i,.int .i64 j] w (BJ B k sl R nx tm (setFin P i (tm+10)) (if (j+1) * P[i].page<P[i].its.length then T++[⟨a,i,j+1⟩] else T) w):=by
 obtain ⟨d,f,rfl,-,F,e0,e1,e2,e3⟩:=En hP.rowL i x;have hrow:=hP.its _ (List.getElem_mem x);have hkI:=hP.kI _ (List.getElem_mem x);have hset:setFin P i (tm+10)=P.set i {P[i] with fin:=tm+10}:=iD x _;have HSF:=fun W (hb:Below w.heap.size w W)=>(hP.below hb).setFin (H.below hb) x (tm+10)
 have c2:=H.cells.c2;have c3:=hP.c3;have hkw:=hP.lt;have hii:(i:Int)<(P.length:Int):=by omega
 have hgk:d≠k:=fun e=>hP.kL (by rw [e];rfl)
 have hfz:w.frozen? ⟨d,i * 4+2,none⟩=false:=by
  rcases hP.rowL.2 with ⟨h,-⟩|⟨g,cap,G,h,-,hb,-⟩
  .cases h
  .cases h;unfold World.frozen?;rw [hb];simp
 generalize P[i]=l at *;obtain ⟨its,v,pp,fin,m⟩:=l;simp only at hl C htk hrow hkI e0 e1 e2 e3;obtain ⟨E,hl2,hl3,O⟩:=hl;obtain ⟨o,b,rfl,-,hgI,-⟩:=cP hrow (by omega);have hcap:its.length<=b:=by
  rcases hrow.2 with ⟨h,-⟩|⟨g,cap,G,h,-,-,h1,-⟩
  .cases h
  .cases h;exact h1
 have hpn:j<=200:=by
  have:j * 1<=j * pp:=Nat.mul_le_mul_left _ E;omega
 obtain ⟨fr,hfr⟩:∃fr,j * pp=fr:=⟨_,rfl⟩;have z:(j+1) * pp=fr+pp:=by rw [Nat.add_mul,Nat.one_mul,hfr]
 have hfrI:(j:Int) * (pp:Int)=(fr:Int):=by rw [<-hfr,Int.natCast_mul]
 simp only [hfr,z] at C htk O ⊢;have HI:Hid (∀w',PFr B k w w'->j3 w' r ((its.take (fr+pp)).drop fr)):=C;have HR:Hid (w.ownsRow B 41 3 (.slice (some ⟨o,0,none⟩) its.length b) its.length (an its)):=hrow;have A:Hid (if fr+pp<its.length then a≠⟨#[]⟩/\∀t∈T,(t.ls=i/\t.pg=j+1)↔t.text=a else a=⟨#[]⟩):=htk;have y:Hid (B<=k/\T.length<=2199023255340):=⟨N,hn.2⟩;have HSF:Hid (∀W,Below w.heap.size w W->ax B (W.setCell ⟨d,i * 4+2,none⟩ (.int .i64 (tm+10))) k sl R nx tm/\aM B (W.setCell ⟨d,i * 4+2,none⟩ (.int .i64 (tm+10))) k (setFin P i (tm+10)) T (.slice (some ⟨d,0,none⟩) P.length f) vT/\PFr B k W (W.setCell ⟨d,i * 4+2,none⟩ (.int .i64 (tm+10)))):=HSF;generalize setFin P i (tm+10)=P' at *;obtain ⟨q,L⟩:∃q:Nat,(fr+pp<=its.length/\q=fr+pp)\/(its.length<fr+pp/\q=its.length):=by
  by_cases h:fr+pp<=its.length
  .exact ⟨_,.inl ⟨h,rfl⟩⟩
  .exact ⟨_,.inr ⟨by omega,rfl⟩⟩
 have s:Hid ((fr+pp<=its.length/\q=fr+pp)\/(its.length<fr+pp/\q=its.length)):=L;have M:o≠d:=fun e=>by
  subst e;exact absurd ((iB hP.rowL (g:=o) rfl).ne (iB hrow (g:=o) rfl)) (by decide)
 clear C htk hrow H hP hset;unfold FS BJ;go_enter (Yq.nq func86),ntmps86
 go_upto_if 32 with fail
 have HW:Hid (Below w.heap.size w ((w.alloc (.cells #[.int .i64 0,.int .i64 0,.string ⟨#[]⟩,r,.string a] 36)).alloc (.cells #[.slice (some ⟨o,0,none⟩) its.length b,.int .i64 pp,.int .i64 fin,.bool m] 148))/\du ((w.alloc (.cells #[.int .i64 0,.int .i64 0,.string ⟨#[]⟩,r,.string a] 36)).alloc (.cells #[.slice (some ⟨o,0,none⟩) its.length b,.int .i64 pp,.int .i64 fin,.bool m] 148)) w.heap.size (.int .i64 0) (.int .i64 0) (.string ⟨#[]⟩) r (.string a)/\((w.alloc (.cells #[.int .i64 0,.int .i64 0,.string ⟨#[]⟩,r,.string a] 36)).alloc (.cells #[.slice (some ⟨o,0,none⟩) its.length b,.int .i64 pp,.int .i64 fin,.bool m] 148)).cell? ⟨w.heap.size+1,0,none⟩=some (.slice (some ⟨o,0,none⟩) its.length b)):=
  ⟨((bR _ w).alloc (lR _) _).alloc (by simp) _,(po w _ _ _ _ _ 36).on ((bR _ _).alloc (lR _) _),by rw [cA (w:=w.alloc _) _ _ (w.heap.size+1) 0 (by simp)];rfl⟩
 have u0:=HW.out.2.2;generalize ((w.alloc (.cells #[.int .i64 0,.int .i64 0,.string ⟨#[]⟩,r,.string a] 36)).alloc (.cells #[.slice (some ⟨o,0,none⟩) its.length b,.int .i64 pp,.int .i64 fin,.bool m] 148))=W at *
 go_cut [11] (fun s11 n=>s11=.int .i64 q/\n=W)
 case first=>
  rcases s.out with ⟨h1,rfl⟩|⟨h1,rfl⟩
  .have K:¬(its.length:Int)<(fr:Int)+pp:=by omega
   go_wp2_with fail
   go_meet
   case rel=>exact ⟨by go_num,rfl⟩
  .have K:(its.length:Int)<(fr:Int)+pp:=by omega
   go_wp2_with fail
   go_meet
   case rel=>exact ⟨rfl,rfl⟩
 case rest=>
 obtain ⟨rfl,rfl⟩:=hcut;have c2':=ai HW.out.1 c2;have c3':=ai HW.out.1 c3;have e2':=ai HW.out.1 e2;have hfz':wc.frozen? ⟨d,i * 4+2,none⟩=false:=(HW.out.1.frozen (p:=⟨d,i * 4+2,none⟩) F).trans hfz
 go_upto_region 6 with fail
 go_cut [46] (fun _ n=>ax B n k sl R nx tm/\aM B n k P' T (.slice (some ⟨d,0,none⟩) P.length f) vT/\PFr B k w n/\du n w.heap.size (.int .i64 0) (.int .i64 0) (.string ⟨#[]⟩) r (.string a)/\n.cell? ⟨w.heap.size+1,0,none⟩=some (.slice (some ⟨o,0,none⟩) its.length b)/\n.ownsRow B 41 3 (.slice (some ⟨o,0,none⟩) its.length b) its.length (an its))
 case first=>
  go_region
  all_goals
   go_wp2_with fail
   go_meet
   case rel=>
    obtain ⟨X1,X2,X3⟩:=HSF.out wc HW.out.1;have hd:Below (wc.setCell ⟨d,i * 4+2,none⟩ (.int .i64 (tm+10))).heap.size (wc.setCell ⟨d,i * 4+2,none⟩ (.int .i64 (tm+10))) (wc.setCell ⟨d,i * 4+2,none⟩ (.int .i64 (tm+10))).drew:=(bR _ _).drew;have hx:(wc.setCell ⟨d,i * 4+2,none⟩ (.int .i64 (tm+10))).drew.heap[w.heap.size]?=wc.heap[w.heap.size]?:=bS _ _ _ _ (show w.heap.size≠d by omega);have hx1:(wc.setCell ⟨d,i * 4+2,none⟩ (.int .i64 (tm+10))).drew.heap[w.heap.size+1]?=wc.heap[w.heap.size+1]?:=bS _ _ _ _ (show w.heap.size+1≠d by omega);refine ⟨X1.below hd,X2.below hd,((PFr.below hkw HW.out.1).trans X3).trans (PFr.below X2.lt hd),HW.out.2.1.block hx,(cB hx1).trans u0,?_⟩;refine dH (HR.out.kept (aS HW.out.1 none) (none_or _)) fun g hg=>?_
    have D:o=g:=by simpa [Value.ownBlock] using hg
    subst D;exact bS _ _ _ _ M
 case rest=>
 obtain ⟨X1,X2,X3,⟨q0,q1,q2,q3,q4⟩,u0,hr⟩:=hcut;have HX:Hid (ax B wc k sl R nx tm/\aM B wc k P' T (.slice (some ⟨d,0,none⟩) P.length f) vT/\PFr B k w wc):=⟨X1,X2,X3⟩;have I:fr<q/\q<=its.length:=by rcases s.out with h|h<;>omega
 have htk:(its.take q).drop fr=(its.take (fr+pp)).drop fr:=by
  rcases s.out with ⟨h,rfl⟩|⟨h,rfl⟩
  .rfl
  .rw [List.take_length,tO (by omega)]
 have HS:=fun c=>pm r (.slice (some ⟨o,fr * 3,none⟩) (q-fr) c) ((its.take q).drop fr) wc.drew (by rw [htk];exact (HI.out wc X3).left ⟨rfl,lR _,fun _ _=>rfl⟩) (DQ (w:=wc.drew) ⟨hr.1,hr.2⟩ fr q (by omega) I.2 c) (by rw [lD,tL];omega)
 have hQ:Hid (du wc w.heap.size (.int .i64 0) (.int .i64 0) (.string ⟨#[]⟩) r (.string a)):=⟨q0,q1,q2,q3,q4⟩;clear X1 X2 X3 hr htk
 go_upto_region 7 with fail
 go_cut [12] (fun s12 n=>s12=.bool true/\ax B n k sl R nx tm/\aM B n k P' T (.slice (some ⟨d,0,none⟩) P.length f) vT/\PFr B k w n/\du n w.heap.size (.int .i64 0) (.int .i64 0) (.string ⟨#[]⟩) r (.string a)/\n.cell? ⟨w.heap.size+1,0,none⟩=some (.slice (some ⟨o,0,none⟩) its.length b))
 case first=>
  go_region_with (go_at_call 85;refine (HS _).mono ?_;rintro e w2 ⟨rfl,Q⟩;have u:Hid (Below wc.heap.size wc w2):=((bR _ wc).drew).trans Q;clear Q)
  all_goals
   go_wp2_with fail
   go_meet
   case rel=>exact ⟨rfl,HX.out.1.below u.out,HX.out.2.1.below u.out,HX.out.2.2.trans (PFr.below HX.out.1.lt u.out),hQ.out.on u.out,ai u.out u0⟩
 case rest=>
 clear HS hQ HX u0 q0 q1 q2 q3 q4 HSF;obtain ⟨rfl,X1,X2,X3,⟨q0,q1,q2,q3,q4⟩,u0⟩:=hcut;have HX:Hid (ax B wc k sl R nx tm/\aM B wc k P' T (.slice (some ⟨d,0,none⟩) P.length f) vT/\PFr B k w wc):=⟨X1,X2,X3⟩;clear X1 X2 X3;by_cases hlt:fr+pp<its.length
 .have htk:=A.out;rw [if_pos hlt] at htk;have hne:((q:Int)==(its.length:Int))=false:=by
   simp only [beq_eq_false_iff_ne,ne_eq];rcases s.out with h|h<;>omega
  have HRT:=yI wc HX.out.1 HX.out.2.1 y.out.1 y.out.2 a i (j+1) htk.1 htk.2;rw [Int.natCast_add] at HRT;clear htk;go_wp2_with fail
  refine HRT.mono ?_;rintro e w3 ⟨rfl,J,Y1,Y2,Y3⟩;have HY:Hid (ax B w3 k sl R nx tm/\aM B w3 k P' (T++[⟨a,i,j+1⟩]) (.slice (some ⟨d,0,none⟩) P.length f) J/\PFr B k w w3):=⟨Y1,Y2,HX.out.2.2.trans Y3⟩;clear Y1 Y2 Y3 HRT;go_wp2_with fail
  go_ret;exact ⟨rfl,HY.out.1,⟨_,_,HY.out.2.1⟩,HY.out.2.2⟩
 .have htk:=A.out;rw [if_neg hlt] at htk;subst htk;have hne:((q:Int)==(its.length:Int))=true:=by
   simp only [beq_iff_eq];rcases s.out with h|h<;>omega
  go_wp2_with fail
  go_ret;exact ⟨rfl,HX.out.1,⟨_,_,HX.out.2.1⟩,HX.out.2.2⟩
end
