/- A part. -/
import Derived.Test.YtnapepbdohidgaaGreatDoorQS29
import Derived.Deep.QuietTactic
import Derived.BigQuiet
set_option maxHeartbeats 4000000
set_option maxRecDepth 100000
open Go renaming World->Wz,Value->Wq
namespace Go.Proofs.Qw
section
open Go
open Go.Conc Go.ConcX Go.ConcX.Gen Go.RowKit
section
variable {A:Nat->Prop} {B k0:Nat} {w:Wz} {st:St} {L:Lg}
theorem r6 (h:aW A B w k0 st L)(hB:B<=w.heap.size)(hop:L.opened.length<=3)(o:OpD)(hk:o.kind=10):
  Calls Yq.prog 33 #[.pointer (some ⟨k0,0,none⟩),cP o] w (bh A B k0 w st L ⟨0,st.count,⟨#[]⟩,L.opened.map iP,⟨#[]⟩⟩):=by
 have hd0:aW A B (cI w o).drew k0 st L:=h.left ((aJ o).drew);have HT:=zR (cI w o).drew hd0.ls hop;have HN:=Cd k0 st.count (cI w o).drew hd0.store.count;obtain ⟨its,hits⟩:∃its,its=L.opened.map iP:=⟨_,rfl⟩;rw [<-hits] at HT ⊢;have hLd:aj (cI w o) (cI w o).drew:=aj.refl.drew;have hkw:k0<(cI w o).heap.size:=by have:=h.ls.lt;rw [aO];omega
 have HB:Hid (∀w1,Below (cI w o).drew.heap.size (cI w o).drew w1->_):=fun w1 hb=>box5 (mi o h.ls (FrC.left hkw (hLd.trans (.below hb))))
 have HF:Hid (∀w1 so sn sc x0 x1 x2 x3 x4,Below (cI w o).drew.heap.size (cI w o).drew w1->w1.ownsRow (cI w o).drew.heap.size 41 3 (.slice so sn sc) its.length (ax its)->bh A B k0 w st L ⟨0,st.count,⟨#[]⟩,its,⟨#[]⟩⟩ (.returned (il ⟨0,st.count,⟨#[]⟩,its,⟨#[]⟩⟩ (.slice so sn sc))) (put5 w1 (w.heap.size+1) x0 x1 x2 x3 x4)):=fun w1 so sn sc x0 x1 x2 x3 x4 hb hrow=>by
  have hl:aj (cI w o) w1:=hLd.trans (.below hb);obtain ⟨A',a1,a2,a3,a4,a5,a6⟩:=aQ.page (h.ls.left (aJ o)) hl hrow (lR _) (fun _ _ _=>rfl);have d1:=(h.left (aJ o)).step a4 a1 a3 rfl;obtain ⟨e1,e2,e3,e4⟩:=nA (A':=A') (sv:=.slice so sn sc) (its:=its) (r:=w.heap.size+1) (aJ o) h.ls.lt hB (by omega) (by rw [aO];omega) ⟨_,gu o,rfl⟩ a1 a2 h.ls.inn d1 a4.weak a6 (fS o h.ls) a5 x0 x1 x2 x3 x4;exact ⟨_,rfl,A',a1,e1,e2,e3,e4⟩
 have hb1:=xx;clear hits hd0 hLd hkw;obtain ⟨kind,key,body,delim,past,n,src⟩:=o;simp only at hk;subst hk;unfold cI at HT HF HB HN;clear h;unfold cP;go_enter (Yq.nq Tryz.func33),Tryz.ntmps33;go_wp2_with fail
 go_region_with (first
  |(go_at_call 46;refine HN.mono ?_;rintro e w1 ⟨rfl,rfl⟩)
  |(go_at_call 47;refine HT.mono ?_;rintro e w1 ⟨sv,rfl,hrow,hb⟩;obtain ⟨so,sc,rfl,-⟩:=ay hrow;obtain ⟨⟨b0,b1,b2,b3,b4⟩,f0,f1,f2,f3,f4⟩:=HB.out w1 hb))
 all_goals
  go_wp2;exact bodyPost_ret (v:=il ⟨0,st.count,⟨#[]⟩,its,⟨#[]⟩⟩ (.slice so its.length sc)) (by simp [results,Tryz.results33,go_sem,il,b0,b1,b2,b3,b4]) rfl (HF.out w1 _ _ _ _ _ _ _ _ hb hrow)
end
def uv (R:Lg×List ItD×ByteArray×Int):jl:=⟨R.2.2.2,0,⟨#[]⟩,R.2.1,R.2.2.1⟩
def stepA (st:St)(L:Lg)(toks:List ByteArray)(o:OpD):St×Lg×jl:=
 if o.kind=6 then (st,(d7 L st.f ⟨false,o.key,o.delim,o.past⟩ o.n).1,uv (d7 L st.f ⟨false,o.key,o.delim,o.past⟩ o.n))
 else if o.kind=7 then (st,(d7 L st.f ⟨true,o.key,o.delim,o.past⟩ o.n).1,uv (d7 L st.f ⟨true,o.key,o.delim,o.past⟩ o.n))
 else if o.kind=8 then (st,(fx L (gE toks o.src o.body)).1,uv (fx L (gE toks o.src o.body)))
 else if o.kind=9 then (st,(ik L o.n).1,⟨(ik L o.n).2,0,⟨#[]⟩,[],⟨#[]⟩⟩)
 else if o.kind=10 then (st,L,⟨0,st.count,⟨#[]⟩,L.opened.map iP,⟨#[]⟩⟩)
 else if o.kind=11 then (st,L,⟨0,0,xI st L.tm,[],⟨#[]⟩⟩)
 else ((aL st o).1,L,⟨(aL st o).2.code,(aL st o).2.ver,(aL st o).2.body,[],⟨#[]⟩⟩)
structure jM (Qok:Qy->Prop)(o:OpD):Prop where
 k12:o.kind≠12
 q:o.kind=6->Qok ⟨false,o.key,o.delim,o.past⟩
 q7:o.kind=7->Qok ⟨true,o.key,o.delim,o.past⟩
structure r7 (Qok:Qy->Prop)(L:Lg)(s:Nat):Prop where
 len:L.opened.length<=3
 left:∀x∈L.opened,0<=x.left/\x.left<=10
 ok:∀x∈L.opened,Qok x.q/\fV (bI x.f x.q.p.data.toList)<=1000/\x.q.p.size<=maxLen
 begun:0<=L.begun/\L.begun<=s
 told:∀tok n pg,ec tok L.told=some (n,pg)->(0<=n/\n<=s)/\0<=pg/\pg<=s+1
theorem oN (k k':ByteArray)(x:Int×Int)(t:Told):ec k (ln k' x t)=if k=k' then some x else ec k t:=by
 induction t with
 |nil=>simp [ln,ec]
 |cons a r ih=>
  obtain ⟨a1,a2⟩:=a;by_cases h:k'=a1
  .subst h;simp only [ln,if_true,ec];by_cases h2:k=k'<;>simp [h2]
  .simp only [ln,if_neg h,ec,ih];by_cases h2:k=a1
   .subst h2;rw [if_pos rfl,if_neg (fun e=>h e.symm),if_pos rfl]
   .rw [if_neg h2,if_neg h2]
theorem nl.sum {st:St}(h:nl st)(p:List UInt8):fV (bI st.f p)<=1000:=by
 have h2:=zz p 41 st.f;have h3:fV (bI st.f p)=tot (41-p.length) fun k=>st.f (p++k):=ni _ _ _ _
 have:=h.cnt;have:=h.le;omega
section
variable {Qok:Qy->Prop} {L:Lg} {s:Nat} {st:St}
theorem r7.mono (h:r7 Qok L s){s':Nat}(hs:s<=s'):r7 Qok L s':=
 ⟨h.len,h.left,h.ok,⟨h.begun.1,by have:=h.begun.2;omega⟩,fun tok n pg e=>by have:=h.told tok n pg e;omega⟩
theorem r7.beg (h:r7 Qok L s)(hT:nl st)(q:Qy)(n:Int)(hq:Qok q)(hp:q.p.size<=maxLen):r7 Qok (d7 L st.f q n).1 (s+1):=by
 have hb:=h.begun;unfold d7;split
 .exact h.mono (by omega)
 .split
  .exact h.mono (by omega)
  .split
   .exact h.mono (by omega)
   .refine ⟨by simp only [lP,lS];omega,fun x hx=>?_,fun x hx=>?_,⟨by simp only;omega,by simp only;omega⟩,fun tok n' pg e=>?_⟩
    .rcases List.mem_append.1 hx with hx|hx
     .exact h.left x hx
     .simp only [List.mem_singleton] at hx;subst hx;exact ⟨by simp [iH],by simp [iH]⟩
    .rcases List.mem_append.1 hx with hx|hx
     .exact h.ok x hx
     .simp only [List.mem_singleton] at hx;subst hx;exact ⟨hq,hT.sum _,hp⟩
    .simp only [oN] at e;split at e
     .cases e;omega
     .have:=h.told tok n' pg e;omega
theorem r7.next (h:r7 Qok L s)(tok:ByteArray):r7 Qok (fx L tok).1 (s+1):=by
 unfold fx;split
 .exact h.mono (by omega)
 .rename_i n pg e1;split
  .exact h.mono (by omega)
  .split
   .exact h.mono (by omega)
   .rename_i i e2 x e3;have hx:x∈L.opened:=List.mem_of_getElem? e3;have hb:=h.begun;refine ⟨by simpa using h.len,fun y hy=>?_,fun y hy=>?_,⟨hb.1,by simp only;omega⟩,fun tok' n' pg' e=>?_⟩
    .rcases List.mem_or_eq_of_mem_set hy with hy|rfl
     .exact h.left y hy
     .exact ⟨by simp [LsA.again],by simp [LsA.again]⟩
    .rcases List.mem_or_eq_of_mem_set hy with hy|rfl
     .exact h.ok y hy
     .exact h.ok x hx
    .simp only at e;split at e
     .have:=h.told tok' n' pg' e;omega
     .rw [oN] at e;split at e
      .cases e;have:=h.told tok n pg e1;omega
      .have:=h.told tok' n' pg' e;omega
theorem r7.tick (h:r7 Qok L s)(u:Int):r7 Qok (ik L u).1 (s+1):=by
 unfold ik;split
 .exact h.mono (by omega)
 .rename_i hu;have hb:=h.begun;refine ⟨?_,fun y hy=>?_,fun y hy=>?_,⟨hb.1,by simp only [pY];omega⟩,fun tok n pg e=>by have:=h.told tok n pg e;omega⟩
  .have:=List.length_filter_le (fun x:LsA=>!decide (x.left<=0)) (L.opened.map fun x=>x.again (x.left-u));rw [lM] at this;exact lT this h.len
  .simp only [pY,List.mem_filter,List.mem_map] at hy;obtain ⟨⟨x,hx,rfl⟩,hy⟩:=hy;have:=h.left x hx;have hy':¬(x.left-u<=0):=fun e=>by simp [LsA.again,e] at hy
   show 0<=x.left-u/\x.left-u<=10;omega
  .simp only [pY,List.mem_filter,List.mem_map] at hy;obtain ⟨⟨x,hx,rfl⟩,hy⟩:=hy;exact h.ok x hx
theorem r7.step (h:r7 Qok L s)(hT:nl st)(toks:List ByteArray)(o:OpD)(hk:jM Qok o)(hp:o.key.size<=maxLen):r7 Qok (stepA st L toks o).2.1 (s+1):=by
 unfold stepA;split
 .rename_i h6;exact h.beg hT _ _ (hk.q h6) hp
 .split
  .rename_i h7;exact h.beg hT _ _ (hk.q7 h7) hp
  .split
   .exact h.next _
   .split
    .exact h.tick _
    .split
     .exact h.mono (by omega)
     .split
      .exact h.mono (by omega)
      .exact h.mono (by omega)
theorem nl.stepA (hT:nl st)(toks:List ByteArray)(o:OpD):nl (stepA st L toks o).1:=by
 unfold Go.Proofs.Qw.stepA
 repeat' split
 all_goals first|exact hT|exact hT.step o
theorem Inv.stepA (hI:Inv st s)(toks:List ByteArray)(o:OpD):Inv (stepA st L toks o).1 (s+1):=by
 have hm:Inv st (s+1):=⟨hI.last0,by have:=hI.lastS;omega,by have:=hI.countL;omega,by have:=hI.countU;omega,hI.sorted,hI.bounds⟩;unfold Go.Proofs.Qw.stepA
 repeat' split
 all_goals first|exact hm|exact hI.step o
end
def nG (Qok:Qy->Prop)(K:OpD->Prop)(G:Wz->Prop)(N:Nat):Prop:=
 ∀ {A:Nat->Prop} {B k0:Nat} {w:Wz} {st:St} {L:Lg} (_:aW A B w k0 st L) (_:B<=w.heap.size) (_:∀w',aI A B k0 w w'->G w') (o:OpD) (_:K o) (_:jM Qok o) (_:o.key.size<=maxLen) (_:o.body.size<=maxLen) {s:Nat} (_:Inv st s) (_:nl st) (_:r7 Qok L s) (_:s<N)
  (g0 cp:Nat) (toks:List ByteArray) (_:toks.length=s) (_:w.cell? ⟨k0,8,none⟩=some (.slice (some ⟨g0,0,none⟩) s cp)) (_:∀i (hi:i<toks.length),w.cell? ⟨g0,i * 5+4,none⟩=some (.string toks[i])),
  Calls Yq.prog 33 #[.pointer (some ⟨k0,0,none⟩),cP o] w fun e w'=>bh A B k0 w (stepA st L toks o).1 (stepA st L toks o).2.1 (stepA st L toks o).2.2 e w'\/Stop Qok e w'
structure Dk where
 st:St
 L:Lg
 al:List jl
def Dk.toks (d:Dk):List ByteArray:=d.al.map (·.tok)
def ip (d:Dk)(o:OpD):Dk:=⟨(stepA d.st d.L d.toks o).1,(stepA d.st d.L d.toks o).2.1,d.al++[(stepA d.st d.L d.toks o).2.2]⟩
def dk0:Dk:=⟨st0,⟨[],0,[],0⟩,[]⟩
def cZ (ops:List OpD):Dk:=ops.foldl ip dk0
theorem r8 (a:List OpD)(o:OpD):cZ (a++[o])=ip (cZ a) o:=by simp [cZ]
theorem Am (ops:List OpD):∀d:Dk,(ops.foldl ip d).al.length=d.al.length+ops.length:=by
 induction ops with
 |nil=>intro d;rfl
 |cons o r ih=>intro d;rw [List.foldl_cons,ih];simp [ip];omega
theorem iE (ops:List OpD):(cZ ops).al.length=ops.length:=by rw [cZ,Am];simp [dk0]
structure CW (Qok:Qy->Prop)(d:Dk)(s:Nat):Prop where
 i:Inv d.st s
 t:nl d.st
 l:r7 Qok d.L s
 n:d.al.length=s
theorem FE (Qok:Qy->Prop):CW Qok dk0 0:=⟨inv0,FA,⟨by simp [dk0],by simp [dk0],by simp [dk0],by simp [dk0],by simp [dk0,ec]⟩,rfl⟩
theorem CW.step {Qok:Qy->Prop}{d:Dk}{s:Nat}(h:CW Qok d s)(o:OpD)(hk:jM Qok o)(hp:o.key.size<=maxLen):CW Qok (ip d o) (s+1):=
 ⟨h.i.stepA _ o,h.t.stepA _ o,h.l.step h.t _ o hk hp,by simp [ip,h.n]⟩
theorem An {Qok:Qy->Prop}(ops:List OpD):∀ (d:Dk)(s:Nat),(∀o∈ops,jM Qok o/\o.key.size<=maxLen)->CW Qok d s->CW Qok (ops.foldl ip d) (s+ops.length):=by
 induction ops with
 |nil=>intro d s _ h;exact h
 |cons o r ih=>
  intro d s hk h;have:=ih (ip d o) (s+1) (fun x hx=>hk x (by simp [hx])) (h.step o (hk o (by simp)).1 (hk o (by simp)).2);rw [List.foldl_cons,lC,show s+(r.length+1)=s+1+r.length by omega];exact this
theorem vE {Qok:Qy->Prop}(ops:List OpD)(hk:∀o∈ops,jM Qok o/\o.key.size<=maxLen):CW Qok (cZ ops) ops.length:=by
 have:=An ops dk0 0 hk (FE Qok)
 rwa [zA] at this
def cC (zs:List (jl×Wq)):List Wq:=zs.flatMap fun z=>[.int .i64 z.1.code,.int .i64 z.1.ver,.string z.1.body,z.2,.string z.1.tok]
theorem xK (zs:List (jl×Wq)):(cC zs).length=zs.length * 5:=ew 5 _ (fun _=>rfl) zs
theorem uw (zs:List (jl×Wq))(z:jl×Wq):cC (zs++[z])=cC zs++[.int .i64 z.1.code,.int .i64 z.1.ver,.string z.1.body,z.2,.string z.1.tok]:=by simp [cC]
theorem nH:∀ (zs:List (jl×Wq))(i:Nat)(hi:i<zs.length),(cC zs)[i * 5]?=some (.int .i64 zs[i].1.code)/\(cC zs)[i * 5+1]?=some (.int .i64 zs[i].1.ver)/\(cC zs)[i * 5+2]?=some (.string zs[i].1.body)/\(cC zs)[i * 5+3]?=some zs[i].2/\(cC zs)[i * 5+4]?=some (.string zs[i].1.tok)
 | [],i,hi=>by simp at hi
 |z::zs,0,hi=>by simp [cC]
 |z::zs,i+1,hi=>by
  have ih:=nH zs i (by simpa using hi);have e:cC (z::zs)=[.int .i64 z.1.code,.int .i64 z.1.ver,.string z.1.body,z.2,.string z.1.tok]++cC zs:=by simp [cC]
  have hh:∀j,(cC (z::zs))[(i+1) * 5+j]?=(cC zs)[i * 5+j]?:=fun j=>by
   rw [e,aR (by simp;omega)];congr 1;simp;omega
  simp only [List.getElem_cons_succ];exact ⟨(hh 0).trans ih.1,(hh 1).trans ih.2.1,(hh 2).trans ih.2.2.1,(hh 3).trans ih.2.2.2.1,(hh 4).trans ih.2.2.2.2⟩
def Ao (A:Nat->Prop)(w:Wz)(zs:List (jl×Wq)):Prop:=∀z∈zs,bH A w z.2 z.1.items.length (ax z.1.items)
def iq (ops:List OpD)(w:Wz)(e:Ending)(w':Wz):Prop:=
 ∃ (A:Nat->Prop) (zs:List (jl×Wq)),e=.returned (.slice (some ⟨w.heap.size,0,none⟩) ops.length ops.length)/\zs.map (·.1)=(cZ ops).al/\w'.ownsRow w.heap.size 36 5 (.slice (some ⟨w.heap.size,0,none⟩) ops.length ops.length) ops.length (cC zs)/\Ao A w' zs/\(∀b,A b->w.heap.size<b)/\aj w w'
section
variable {A:Nat->Prop} {B k0:Nat} {w w':Wz} {st:St} {L:Lg}
theorem aW.apart {g0:Nat}(h:aW A B w k0 st L)(hsz:w.heap.size<=w'.heap.size)(hne:∀b,b<w.heap.size->b≠k0->b≠g0->w'.heap[b]?=w.heap[b]?)(hA:¬A g0)(hgB:g0<B)(hc:∀j,j<7->w'.cell? ⟨k0,j,none⟩=w.cell? ⟨k0,j,none⟩)(hf:∀j,w'.frozen? ⟨k0,j,none⟩=w.frozen? ⟨k0,j,none⟩):aW A B w' k0 st L:=by
 have hAk:=h.ls.avoid;have hlow:=h.ls.low;have hN:∀n p f,ai A n w p f->ai A n w' p f:=fun n p f hn=>ai.keep (fun b hb hlt=>⟨hb,hne b hlt (fun e=>hAk (e▸hb)) (fun e=>hA (e▸hb))⟩) n p f hn
 have c3:=h.time;obtain ⟨p,c0,hp⟩:=h.store.tree;obtain ⟨v,c4,zs,z1,z2,z3,z4⟩:=h.ls.opened;obtain ⟨mv,c6,hm⟩:=h.ls.told;refine ⟨⟨h.store.avoid,⟨p,(hc 0 (by omega)).trans c0,hN _ _ _ hp⟩,(hc 1 (by omega)).trans h.store.count,(hc 2 (by omega)).trans h.store.last,fun j=>(hf j).trans (h.store.frozen j)⟩,⟨⟨v,(hc 4 (by omega)).trans c4,zs,z1,bc z2 fun g h1 hg=>hne g hg (by omega) (by omega),z3,fun z hz=>hN _ _ _ (z4 z hz)⟩,(hc 5 (by omega)).trans h.ls.begun,⟨mv,(hc 6 (by omega)).trans c6,?_⟩,fun j=>(hf j).trans (h.ls.frozen j),h.ls.avoid,h.ls.low,fun b hb=>by have:=h.ls.inn b hb;omega⟩,(hc 3 (by omega)).trans c3⟩;rcases hm with hm|⟨m,es,clock,m1,m2,m3,m4,m5⟩
 .exact .inl hm
 .have hml:=(eS m2).1;exact .inr ⟨m,es,clock,m1,(hne m hml (by omega) (by omega)).trans m2,m3,m4,m5⟩
theorem Ap {c7 c8:Wq}{T:TypeId}:aW (fun _=>False) (w.heap.size+1) (w.alloc (.cells #[.pointer none,.int .i64 0,.int .i64 0,.int .u64 0,.slice none 0 0,.int .i64 0,.map none,c7,c8] T)) w.heap.size st0 ⟨[],0,[],0⟩:=by
 have hd:∀j,(w.alloc (.cells #[.pointer none,.int .i64 0,.int .i64 0,.int .u64 0,.slice none 0 0,.int .i64 0,.map none,c7,c8] T)).cell? ⟨w.heap.size,j,none⟩=(#[.pointer none,.int .i64 0,.int .i64 0,.int .u64 0,.slice none 0 0,.int .i64 0,.map none,c7,c8]:Array Wq)[j]?:=fun j=>cA (w:=w) _ _ w.heap.size j rfl
 have hf:∀j,(w.alloc (.cells #[.pointer none,.int .i64 0,.int .i64 0,.int .u64 0,.slice none 0 0,.int .i64 0,.map none,c7,c8] T)).frozen? ⟨w.heap.size,j,none⟩=false:=fun j=>World.frozen?_alloc_at (w:=w) _ _ w.heap.size j rfl
 refine ⟨⟨fun _ h=>h.elim,⟨none,hd 0,ai.nil (fun _=>rfl)⟩,hd 1,hd 2,hf⟩,⟨⟨_,hd 4,[],rfl,⟨by simp [aV],.inl ⟨rfl,rfl⟩⟩,fun g h=>by simp [Value.ownBlock] at h,fun z hz=>by simp at hz⟩,hd 5,⟨_,hd 6,.inl ⟨rfl,rfl⟩⟩,hf,fun h=>h,by omega,fun _ h=>h.elim⟩,hd 3⟩
theorem Em {zs:List (jl×Wq)}{al:List jl}(hz:zs.map (·.1)=al){base n cap g:Nat}{T:TypeId}(h:w.ownsRow base T 5 (.slice (some ⟨g,0,none⟩) n cap) n (cC zs)):∀i (hi:i<(al.map (·.tok)).length),w.cell? ⟨g,i * 5+4,none⟩=some (.string (al.map (·.tok))[i]):=by
 subst hz;intro i hi;have hi':i<zs.length:=by simpa using hi
 have:=(nH zs i hi').2.2.2.2;rw [h.cellAt _ (by have:=h.1;rw [xK] at this;omega)];simpa using this
end
theorem xL {A:Nat->Prop}{B k0:Nat}{w w':Wz}(h:fy A B k0 w w'){base n cap g:Nat}{T:TypeId}{xs:List Wq}(ho:w.ownsRow base T 5 (.slice (some ⟨g,0,none⟩) n cap) n xs)(hB:g<B)(hk:g≠k0):w'.ownsRow base T 5 (.slice (some ⟨g,0,none⟩) n cap) n xs:=
 ed ho fun g' hg'=>by
  simp [Value.ownBlock] at hg';subst hg';exact h.low _ hB (ho.lt _ rfl).2 hk
structure AJ (Qok:Qy->Prop)(ops:List OpD)(n k0:Nat)(w wr:Wz)(i:Nat)(A:Nat->Prop)(zs:List (jl×Wq)):Prop where
 desk:aW A (k0+1) wr k0 (cZ (ops.take i)).st (cZ (ops.take i)).L
 above:∀b,A b->w.heap.size<b
 c8:wr.cell? ⟨k0,8,none⟩=some (.slice (some ⟨w.heap.size,0,none⟩) i n)
 own:wr.ownsRow w.heap.size 36 5 (.slice (some ⟨w.heap.size,0,none⟩) i n) i (cC zs)
 al:zs.map (·.1)=(cZ (ops.take i)).al
 rows:Ao A wr zs
 left:aj w wr
 k0:w.heap.size<k0
theorem AJ.leftD {Qok:Qy->Prop}{ops:List OpD}{n k0 i:Nat}{w wr W1 w':Wz}{A:Nat->Prop}{zs:List (jl×Wq)}(h:AJ Qok ops n k0 w wr i A zs)(hl:aj wr W1)(hd:aI A (k0+1) k0 W1 w'):aj w w':=by
 have h0:=h.left;have hk:=h.k0;have hs:=h0.size;have hs1:=hl.size;refine ⟨hd.os.trans (hl.os.trans h0.os),by have:=hd.size;omega,fun b hb=>?_⟩;rw [hd.low b (by omega) (by omega) (by omega),hl.block b (by omega),h0.block b hb]
theorem AJ.next {Qok:Qy->Prop}{ops:List OpD}{n k0 i:Nat}{w wr W1 w2 w3:Wz}{A:Nat->Prop}{zs:List (jl×Wq)}(h:AJ Qok ops n k0 w wr i A zs)(hi:i<ops.length)(hl:aj wr W1){sv:Wq}{X:Obj}(hp:bh A (k0+1) k0 W1 (stepA (cZ (ops.take i)).st (cZ (ops.take i)).L (cZ (ops.take i)).toks ops[i]).1 (stepA (cZ (ops.take i)).st (cZ (ops.take i)).L (cZ (ops.take i)).toks ops[i]).2.1 (stepA (cZ (ops.take i)).st (cZ (ops.take i)).L (cZ (ops.take i)).toks ops[i]).2.2 (.returned (il (stepA (cZ (ops.take i)).st (cZ (ops.take i)).L (cZ (ops.take i)).toks ops[i]).2.2 sv)) w2)
  (ho:w3.ownsRow w.heap.size 36 5 (.slice (some ⟨w.heap.size,0,none⟩) (i+1) n) (i+1) (cC (zs++[((stepA (cZ (ops.take i)).st (cZ (ops.take i)).L (cZ (ops.take i)).toks ops[i]).2.2,sv)]))) (hg:(w2.alloc X).grownBy w3 (some w.heap.size)) (hfz:w3.cell? ⟨k0,8,none⟩=some (.slice (some ⟨w.heap.size,0,none⟩) i n)):
  ∃A',AJ Qok ops n k0 w (w3.setCell ⟨k0,8,none⟩ (.slice (some ⟨w.heap.size,0,none⟩) (i+1) n)) (i+1) A' (zs++[((stepA (cZ (ops.take i)).st (cZ (ops.take i)).L (cZ (ops.take i)).toks ops[i]).2.2,sv)]):=by
 obtain ⟨sv',he,A',a1,a2,hd,hw,hrow⟩:=hp;have hsv:sv'=sv:=by
  simp [il] at he;exact he.symm
 subst hsv;have htk:ops.take (i+1)=ops.take i++[ops[i]]:=tS hi;have hrd:cZ (ops.take (i+1))=ip (cZ (ops.take i)) ops[i]:=by rw [htk,r8]
 have hk:=h.k0;have hs0:=h.left.size;have hs1:=hl.size;have hs2:=hw.size;have hs3:=hg.size;simp at hs3;have hne:∀b,b<w2.heap.size->b≠k0->b≠w.heap.size->(w3.setCell ⟨k0,8,none⟩ (.slice (some ⟨w.heap.size,0,none⟩) (i+1) n)).heap[b]?=w2.heap[b]?:=fun b hb h1 h2=>by
  rw [bS _ _ _ _ h1,hg.block b (by simp;omega) (fun e=>h2 (oJ e)),bA _ _ _ hb]
 have hlk:k0<w2.heap.size:=hd.ls.lt;have hk3:w3.heap[k0]?=w2.heap[k0]?:=by
  rw [hg.block k0 (by simp;omega) (fun e=>by have:=oJ e;omega),bA _ _ _ hlk]
 have ha':∀b,A' b->w.heap.size<b:=fun b hb=>by
  rcases a2 b hb with h1|h1
  .exact h.above b h1
  .have:=h.desk.ls.lt;omega
 have hc:∀j,j≠8->(w3.setCell ⟨k0,8,none⟩ (.slice (some ⟨w.heap.size,0,none⟩) (i+1) n)).cell? ⟨k0,j,none⟩=w2.cell? ⟨k0,j,none⟩:=fun j hj=>by
  rw [cO _ _ _ _ (bE (fun e=>hj e.symm))];exact cB (a:=⟨k0,j,none⟩) hk3
 have hf:∀j,(w3.setCell ⟨k0,8,none⟩ (.slice (some ⟨w.heap.size,0,none⟩) (i+1) n)).frozen? ⟨k0,j,none⟩=w2.frozen? ⟨k0,j,none⟩:=fun j=>by
  rw [World.frozen?_setCell];exact fB (a:=⟨k0,j,none⟩) hk3
 refine ⟨A',?_,ha',cS _ _ _ (by rw [hfz];rfl),?_,?_,?_,?_,h.k0⟩
 .rw [hrd];show aW A' (k0+1) _ k0 (stepA _ _ _ _).1 (stepA _ _ _ _).2.1;exact hd.apart (g0:=w.heap.size) (by simp;omega) hne (fun hx=>by have:=ha' _ hx;omega) (by omega) (fun j hj=>hc j (by omega)) hf
 .exact ed ho fun g hg'=>by
   simp [Value.ownBlock] at hg';subst hg';exact bS _ _ _ _ (by show w.heap.size≠k0;omega)
 .rw [hrd,List.map_append,h.al];rfl
 .intro z hz;have hkeep:∀ {v:Wq} {m:Nat} {xs:List Wq},bH A' w2 v m xs->bH A' (w3.setCell ⟨k0,8,none⟩ (.slice (some ⟨w.heap.size,0,none⟩) (i+1) n)) v m xs:=fun hr=>bH.keep hr fun b hb hlt=>⟨hb,hne b hlt (fun e=>hd.ls.avoid (e▸hb)) (fun e=>by have:=ha' b hb;omega)⟩
  rcases List.mem_append.1 hz with hz|hz
  .refine hkeep (bH.keep (h.rows z hz) fun b hb hlt=>⟨a1 b hb,?_⟩);rw [hw.tree b hb (by omega),hl.block b hlt]
  .simp only [List.mem_singleton] at hz;subst hz;exact hkeep hrow
 .refine ⟨?_,by simp;omega,fun b hb=>?_⟩
  .show w3.os=w.os;rw [hg.os];exact hw.os.trans (hl.os.trans h.left.os)
  .have hkk:=h.desk.ls.lt;rw [hne b (by omega) (by omega) (by omega),hw.low b (by omega) (by omega) (by omega),hl.block b (by omega),h.left.block b hb]
theorem Ct (Qok:Qy->Prop)(K:OpD->Prop)(G:Wz->Prop)(N:Nat)(hAns:nG Qok K G N)(b off cap:Nat)(ops:List OpD)(w:Wz)(hG:∀w',aj w w'->G w')(hS:pU w b off ops)(hz:Sized ops)(hn:ops.length<=N)(hN:N<2199023255540)(hko:∀o∈ops,jM Qok o)(hkk:∀o∈ops,K o):
  Calls Yq.prog 18 #[.slice (some ⟨b,off,none⟩) ops.length cap] w fun e w'=>iq ops w e w'\/Stop Qok e w':=by
 obtain ⟨i0,hi0,hz0,hz1,hz2⟩:=info_parts Yq.infoAns;have HSc:Hid (pU w b off ops/\Sized ops):=⟨hS,hz⟩;have HPL:Hid (∀o∈ops,jM Qok o):=hko;have HAN0:Hid (nG Qok K G N):=hAns;have HGG:Hid (∀w',aj w w'->G w'):=hG;have HKK:Hid (∀o∈ops,K o):=hkk;have HRP:Hid (∀e w',iq ops w e w'↔iq ops w e w'):=fun _ _=>Iff.rfl
 obtain ⟨P,hP⟩:∃P:Ending->Wz->Prop,P=fun e w'=>iq ops w e w'\/Stop Qok e w':=⟨_,rfl⟩
 have HP1:Hid (∀e w',iq ops w e w'->P e w'):=fun e w' h=>by rw [hP];exact .inl h
 have HP2:Hid (∀e w',Stop Qok e w'->P e w'):=fun e w' h=>by rw [hP];exact .inr h
 rw [<-hP];obtain ⟨n,hnl⟩:∃n,ops.length=n:=⟨_,rfl⟩;have HN:Hid (ops.length=n):=hnl;rw [hnl] at hn ⊢;clear hS hz hnl hko hAns hP HRP hkk hG;go_enter (Yq.nq Tryz.func18),Tryz.ntmps18;go_wp2_with (at_make;refine wpList_make_own _ rfl _ _ 27 rfl w.heap.size 36 i0 _ 5 (Yq.u Tryz.underlying27) hi0 hz0 hz1 _ _ _ n rfl rfl (by omega) ?qb1 ?qb2 ?qb3 ?_)
 case qb1=>rw [hz2];omega
 case qb2=>simp only [maxLen];omega
 case qb3=>simp
 intro w1 hown1 hgrow1;have hlt1:w.heap.size<w1.heap.size:=(hown1.lt w.heap.size rfl).2;have b1:Below w.heap.size w w1:=⟨hgrow1.os,hgrow1.tape,hgrow1.output,hgrow1.size,fun k hk=>hgrow1.block k hk (by simp)⟩;go_wp2_with fail
 obtain ⟨W0,hW0⟩:∃W0,W0=w1.alloc (.cells #[.pointer none,.int .i64 0,.int .i64 0,.int .u64 0,.slice none 0 0,.int .i64 0,.map none,.slice (some ⟨b,off,none⟩) n cap,.slice (some ⟨w.heap.size,0,none⟩) 0 n] 65):=⟨_,rfl⟩;have HI0:Hid (AJ Qok ops n w1.heap.size w W0 0 (fun _=>False) []):=by
  rw [hW0];exact ⟨Ap,fun _ h=>h.elim,by rw [pV];rfl,hown1.alloc _,rfl,fun z hz=>by simp at hz,(aj.below b1).alloc _,hlt1⟩
 rw [<-hW0];generalize w1.heap.size=k0 at *;clear b1 hown1 hgrow1 hW0
 go_loopw [5,13] (fun _ s12 wr=>∃ (i:Nat) (A:Nat->Prop) (zs:List (jl×Wq)),i<=n/\s12=.int .i64 i/\AJ Qok ops n k0 w wr i A zs) (fun _ s12 _=>n-(intOf s12).toNat)
 case atStart=>exact ⟨0,fun _=>False,[],Nat.zero_le _,rfl,HI0.out⟩
 case round=>
  obtain ⟨i,A,zs,hin,rfl,HR0⟩:=hrel;have HR:Hid (AJ Qok ops n k0 w wr i A zs):=HR0;clear HR0 HI0;by_cases hlt:i<n
  .have hlo:i<ops.length:=by rw [HN.out];exact hlt
   have hb:=HR.out.left;obtain ⟨c0,c1,c2,c3,c4,c5,c6⟩:=HSc.out.1 i hlo;replace c0:=hb.cell c0;replace c1:=hb.cell c1;replace c2:=hb.cell c2;replace c3:=hb.cell c3;replace c4:=hb.cell c4;replace c5:=hb.cell c5;replace c6:=hb.cell c6;obtain ⟨hzk,hzb⟩:=HSc.out.2 ops[i] (List.getElem_mem hlo);have hk1:=HPL.out ops[i] (List.getElem_mem hlo);have hk2:=HKK.out ops[i] (List.getElem_mem hlo);have hID:CW Qok (cZ (ops.take i)) i:=by
    have:=vE (Qok:=Qok) (ops.take i) (fun o ho=>⟨HPL.out o (List.mem_of_mem_take ho),(HSc.out.2 o (List.mem_of_mem_take ho)).1⟩)
    rwa [tL,Nat.min_eq_left (by omega)] at this
   have HNX:∀ (W1 w2 w3:Wz) (sv:Wq) (X:Obj),aj wr W1->bh A (k0+1) k0 W1 (stepA (cZ (ops.take i)).st (cZ (ops.take i)).L (cZ (ops.take i)).toks ops[i]).1 (stepA (cZ (ops.take i)).st (cZ (ops.take i)).L (cZ (ops.take i)).toks ops[i]).2.1 (stepA (cZ (ops.take i)).st (cZ (ops.take i)).L (cZ (ops.take i)).toks ops[i]).2.2 (.returned (il (stepA (cZ (ops.take i)).st (cZ (ops.take i)).L (cZ (ops.take i)).toks ops[i]).2.2 sv)) w2->w3.ownsRow w.heap.size 36 5 (.slice (some ⟨w.heap.size,0,none⟩) (i+1) n) (i+1) (cC (zs++[((stepA (cZ (ops.take i)).st (cZ (ops.take i)).L (cZ (ops.take i)).toks ops[i]).2.2,sv)]))->(w2.alloc X).grownBy w3 (some w.heap.size)->w3.cell? ⟨k0,8,none⟩=some (.slice (some ⟨w.heap.size,0,none⟩) i n)->∃A' zs',AJ Qok ops n k0 w (w3.setCell ⟨k0,8,none⟩ (.slice (some ⟨w.heap.size,0,none⟩) (i+1) n)) (i+1) A' zs':=
    fun W1 w2 w3 sv X hl hp ho hg hc=>by
     obtain ⟨A',h⟩:=HR.out.next hlo hl hp ho hg hc
     exact ⟨A',_,h⟩
   obtain ⟨o,ho⟩:∃o,o=ops[i]:=⟨_,rfl⟩;rw [<-ho] at HNX c0 c1 c2 c3 c4 c5 c6 hzk hzb hk1 hk2;obtain ⟨kind,key,body,delim,past,nn,src⟩:=o;simp only at c0 c1 c2 c3 c4 c5 c6 hzk hzb;obtain ⟨W1,hW1⟩:∃W1,W1=wr.alloc (.cells #[.int .i64 kind,.string key,.string body,.string delim,.string past,.int .i64 nn,.int .i64 src] 31):=⟨_,rfl⟩;have hLW:aj wr W1.drew:=by rw [hW1];exact (aj.refl.alloc _).drew
   have hkl:k0<wr.heap.size:=HR.out.desk.ls.lt;have k8a:W1.drew.cell? ⟨k0,8,none⟩=some (.slice (some ⟨w.heap.size,0,none⟩) i n):=hLW.cell HR.out.c8;have HAN:=HAN0.out (HR.out.desk.left hLW) (by have:=hLW.size;omega) (fun w' hd=>HGG.out w' (HR.out.leftD hLW hd)) ⟨kind,key,body,delim,past,nn,src⟩ hk2 hk1 hzk hzb hID.i hID.t hID.l (by omega) w.heap.size n (cZ (ops.take i)).toks (by rw [Dk.toks,lM];exact hID.n) k8a (fun j hj=>hLW.cell (Em HR.out.al HR.out.own j hj));generalize stepA (cZ (ops.take i)).st (cZ (ops.take i)).L (cZ (ops.take i)).toks ⟨kind,key,body,delim,past,nn,src⟩=sr at HAN HNX;obtain ⟨st',L',ad⟩:=sr;obtain ⟨code,ver,abody,its,tok⟩:=ad;simp only [cP] at HAN HNX;have HNX1:Hid (∀ (w2 w3:Wz) (sv:Wq) (X:Obj),bh A (k0+1) k0 W1.drew st' L' ⟨code,ver,abody,its,tok⟩ (.returned (il ⟨code,ver,abody,its,tok⟩ sv)) w2->w3.ownsRow w.heap.size 36 5 (.slice (some ⟨w.heap.size,0,none⟩) (i+1) n) (i+1) (cC zs++[.int .i64 code,.int .i64 ver,.string abody,sv,.string tok])->(w2.alloc X).grownBy w3 (some w.heap.size)->w3.cell? ⟨k0,8,none⟩=some (.slice (some ⟨w.heap.size,0,none⟩) i n)->∃A' zs',AJ Qok ops n k0 w (w3.setCell ⟨k0,8,none⟩ (.slice (some ⟨w.heap.size,0,none⟩) (i+1) n)) (i+1) A' zs'):=
    fun w2 w3 sv X hp ho hg hc=>HNX _ w2 w3 sv X hLW hp (by rw [uw];exact ho) hg hc
   have HCL:Hid (Calls Yq.prog 33 #[.pointer (some ⟨k0,0,none⟩),.agg #[.int .i64 kind,.string key,.string body,.string delim,.string past,.int .i64 nn,.int .i64 src]] W1.drew fun e w'=>(∃v,e=.returned v/\∃so sn sc,v=.agg #[.int .i64 code,.int .i64 ver,.string abody,.slice so sn sc,.string tok]/\bh A (k0+1) k0 W1.drew st' L' ⟨code,ver,abody,its,tok⟩ (.returned (il ⟨code,ver,abody,its,tok⟩ (.slice so sn sc))) w')\/∃ch,e=.panicked ch/\Stop Qok (.panicked ch) w'):=
    HAN.mono fun e w' h=>by
     rcases h with ⟨sv,rfl,A',a1,a2,a3,a4,a5⟩|hst
     .obtain ⟨so,sc,rfl,a6⟩:=a5;exact .inl ⟨_,rfl,so,_,sc,rfl,_,rfl,A',a1,a2,a3,a4,so,sc,rfl,a6⟩
     .obtain ⟨x,y,r,rfl,hst⟩:=hst;exact .inr ⟨_,rfl,x,y,r,rfl,hst⟩
   have HF8:Hid (∀w2 sv,bh A (k0+1) k0 W1.drew st' L' ⟨code,ver,abody,its,tok⟩ (.returned (il ⟨code,ver,abody,its,tok⟩ sv)) w2->w2.cell? ⟨k0,8,none⟩=some (.slice (some ⟨w.heap.size,0,none⟩) i n)/\(∀X:Obj,(w2.alloc X).ownsRow w.heap.size 36 5 (.slice (some ⟨w.heap.size,0,none⟩) i n) i (cC zs))/\∀ (w3:Wz) (X:Obj),(w2.alloc X).grownBy w3 (some w.heap.size)->w3.cell? ⟨k0,8,none⟩=some (.slice (some ⟨w.heap.size,0,none⟩) i n)/\w3.frozen? ⟨k0,8,none⟩=false):=fun w2 sv hp=>by
    obtain ⟨_,-,A',-,-,hd,hw,-⟩:=hp;have hk0:=HR.out.k0;have e2:w2.cell? ⟨k0,8,none⟩=some (.slice (some ⟨w.heap.size,0,none⟩) i n):=(hw.cells 8 (by omega)).trans k8a;have hlt2:=hd.ls.lt;refine ⟨e2,fun X=>(xL hw (bc HR.out.own fun g _ hg=>hLW.block g hg) (by omega) (by omega)).alloc X,fun w3 X hg3=>?_⟩;have hk3:w3.heap[k0]?=w2.heap[k0]?:=by
     rw [hg3.block k0 (by simp;omega) (fun e=>by have:=oJ e;omega),bA _ _ _ hlt2]
    exact ⟨(cB (a:=⟨k0,8,none⟩) hk3).trans e2,(fB (a:=⟨k0,8,none⟩) hk3).trans (hd.ls.frozen 8)⟩
   have HW1:Hid (W1=wr.alloc (.cells #[.int .i64 kind,.string key,.string body,.string delim,.string past,.int .i64 nn,.int .i64 src] 31)):=hW1;have W1c:∀j,W1.drew.cell? ⟨wr.heap.size,j,none⟩=(#[.int .i64 kind,.string key,.string body,.string delim,.string past,.int .i64 nn,.int .i64 src]:Array Wq)[j]?:=fun j=>by rw [hW1];exact pV wr _ _ j
   have q0:=W1c 0;have q1:=W1c 1;have q2:=W1c 2;have q3:=W1c 3;have q4:=W1c 4;have q5:=W1c 5;have q6:=W1c 6;have HEN:Hid (∀ (args:Array Wq) (wx:Wz),(callFunc 33 args).run Yq.prog wx=.ok (.enter 33 args) wx):=fun args wx=>by go_simp
   have k8n:=HR.out.c8;clear W1c hW1 hb hID HNX HAN hk1 hk2 hzk hzb ho hLW;simp only [gA,gZ,gS] at q0 q1 q2 q3 q4 q5 q6
   go_upto_region 5 with fail
   rw [<-HW1.out]
   go_region_law (first
    |(refine bX rfl 33 #[.tmp 3,.tmp 19] #[65,31] rfl #[.pointer (some ⟨k0,0,none⟩),.agg #[.int .i64 kind,.string key,.string body,.string delim,.string past,.int .i64 nn,.int .i64 src]] (by simp [Act.eval]) (HEN.out _ _) _ _ HCL.out (by intro ch w' hs;exact ⟨rfl,HP2.out _ _ hs⟩) ?_;rintro v w2 ⟨so,sn,sc,rfl,hp⟩;obtain ⟨k8b,o8,f8⟩:=HF8.out w2 _ hp;have k8d:(w2.alloc (.cells #[.int .i64 code,.int .i64 ver,.string abody,.slice so sn sc,.string tok] 36)).cell? ⟨k0,8,none⟩=some (.slice (some ⟨w.heap.size,0,none⟩) i n):=an k8b _;have HX2:Hid (bh A (k0+1) k0 W1.drew st' L' ⟨code,ver,abody,its,tok⟩ (.returned (il ⟨code,ver,abody,its,tok⟩ (.slice so sn sc))) w2):=hp;have HO8:Hid (∀X:Obj,(w2.alloc X).ownsRow w.heap.size 36 5 (.slice (some ⟨w.heap.size,0,none⟩) i n) i (cC zs)):=o8;have HG8:Hid (∀ (w3:Wz) (X:Obj),(w2.alloc X).grownBy w3 (some w.heap.size)->w3.cell? ⟨k0,8,none⟩=some (.slice (some ⟨w.heap.size,0,none⟩) i n)/\w3.frozen? ⟨k0,8,none⟩=false):=f8;clear hp o8 f8)
    |(refine lI rfl (.tmp 18) (.tmp 21) 27 rfl w.heap.size 36 i0 5 (Yq.u Tryz.underlying27) hi0 hz1 w.heap.size i n (cC zs) (by simp [Act.eval]) (HO8.out _) ⟨w2.heap.size,0,none⟩ 1 1 [.int .i64 code,.int .i64 ver,.string abody,.slice so sn sc,.string tok] (by simp [Act.eval]) rfl (xr _ _ _ _ _ _ _) (by intro u hu;simp at hu;rcases hu with rfl|rfl|rfl|rfl|rfl<;>rfl) (by omega) ?_;intro w3 ho3 hg3;obtain ⟨k8c,f8c⟩:=HG8.out _ _ hg3;have HW3:Hid (w3.ownsRow w.heap.size 36 5 (.slice (some ⟨w.heap.size,0,none⟩) (i+1) n) (i+1) (cC zs++[.int .i64 code,.int .i64 ver,.string abody,.slice so sn sc,.string tok])/\(w2.alloc (.cells #[.int .i64 code,.int .i64 ver,.string abody,.slice so sn sc,.string tok] 36)).grownBy w3 (some w.heap.size)):=⟨ho3,hg3⟩;clear ho3 hg3))
   all_goals
    go_wp2;obtain ⟨A',zs',hI'⟩:=HNX1.out w2 w3 _ _ HX2.out HW3.out.1 HW3.out.2 k8c;exact ⟨⟨i+1,A',zs',by omega,by go_num,hI'⟩,by simp [intOf];omega⟩
  .have hie:i=n:=by omega
   subst hie;have HT:Hid (ops.take i=ops):=tO (by rw [HN.out];exact lR _);have c8:=HR.out.c8;go_wp2;refine HP1.out _ _ ⟨A,zs,by rw [HN.out];rfl,?_,?_,HR.out.rows,HR.out.above,HR.out.left⟩
   .have:=HR.out.al;rw [HT.out] at this;exact this
   .rw [HN.out];exact HR.out.own
end
section
open Go.RowKit
theorem ux (kind:Int)(key body:ByteArray)(w:Wz):Calls Yq.prog 20 #[.int .i64 kind,.string key,.string body] w fun e w'=>
  e=.returned (.agg #[.int .i64 kind,.string key,.string body,.string ⟨#[]⟩,.string ⟨#[]⟩,.int .i64 0,.int .i64 0])/\Below w.heap.size w w':=by
 go_enter (Yq.nq Tryz.func20),Tryz.ntmps20;go_wp2;exact bodyPost_ret (v:=.agg #[.int .i64 kind,.string key,.string body,.string ⟨#[]⟩,.string ⟨#[]⟩,.int .i64 0,.int .i64 0]) (by simp [results,Tryz.results20,go_sem]) rfl ⟨rfl,(bR _ _).alloc (lR _) _⟩
end
section
open Go
open Go.Conc Go.ConcX Go.ConcX.Gen Go.RowKit
theorem Cu (Qok:Qy->Prop)(K:OpD->Prop)(G:Wz->Prop)(N:Nat)(hAns:nG Qok K G N)(v:Wq)(ops:List OpD)(w:Wz)(hG:∀w',aj w w'->G w')(h:dZ w v ops)(hne:ops≠[])(hn:ops.length<=N)(hN:N<2199023255540)(hko:∀o∈ops,jM Qok o)(hkk:∀o∈ops,K o):
  Calls Yq.prog 18 #[v] w fun e w'=>iq ops w e w'\/Stop Qok e w':=by
 obtain ⟨a,cap,rfl,hx⟩:=h.form;obtain ⟨b,off,rfl,hS⟩:=hx hne;exact Ct Qok K G N hAns b off cap ops w hG hS h.sized hn hN hko hkk
theorem dZ.left {w w':Wz}{v:Wq}{ops:List OpD}(h:dZ w v ops)(hl:aj w w'):dZ w' v ops:=by
 obtain ⟨a,cap,rfl,hx⟩:=h.form;refine ⟨⟨a,cap,rfl,fun hne=>?_⟩,h.sized,h.len⟩;obtain ⟨b,off,rfl,hS⟩:=hx hne;refine ⟨b,off,rfl,fun i hi=>?_⟩;obtain ⟨c0,c1,c2,c3,c4,c5,c6⟩:=hS i hi;exact ⟨hl.cell c0,hl.cell c1,hl.cell c2,hl.cell c3,hl.cell c4,hl.cell c5,hl.cell c6⟩
def Fc (ops:List OpD)(m:Nat)(w:Wz)(e:Ending)(w':Wz):Prop:=
 ∃ (g:Nat) (A:Nat->Prop) (zs:List (jl×Wq)),e=.returned (.slice (some ⟨g,0,none⟩) m m)/\zs.map (·.1)=(cZ ops).al/\(∀j,j<m * 5->w'.cell? ⟨g,j,none⟩=(cC zs)[j]?)/\Ao A w' zs/\aj w w'/\w.heap.size<=g
theorem iq.g {ops:List OpD}{w w':Wz}{e:Ending}(h:iq ops w e w')(m:Nat)(hm:ops.length=m):Fc ops m w e w':=by
 subst hm;obtain ⟨A,zs,rfl,hal,hown,hrows,hA,hl⟩:=h;exact ⟨_,A,zs,rfl,hal,fun j hj=>hown.cellAt j hj,hrows,hl,lR _⟩
theorem Aq {t:ByteArray}(h:t≠⟨#[]⟩):t.toList.isEmpty=false:=by
 rw [ByteArray.toList_eq];cases e:t.data.toList with
 |nil=>exact absurd (ByteArray.ext (Array.toList_inj.1 (e.trans rfl))) h
 |cons a r=>rfl
theorem fp {a:jl}{l:List jl}{zs:List (jl×Wq)}(h:zs.map (·.1)=a::l):∃v zs',zs=(a,v)::zs'/\zs'.map (·.1)=l:=by
 cases zs with
 |nil=>simp at h
 |cons z r=>
  obtain ⟨b,v⟩:=z;simp only [List.map_cons,List.cons.injEq] at h;obtain ⟨rfl,h⟩:=h;exact ⟨v,r,rfl,h⟩
end
