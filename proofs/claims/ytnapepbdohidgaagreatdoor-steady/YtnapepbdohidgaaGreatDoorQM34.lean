/- Part of a proof. -/
import Derived.Test.YtnapepbdohidgaaGreatDoorQM33
import Derived.Deep.QuietTactic
import Derived.BigQuiet
set_option maxHeartbeats 4000000
set_option maxRecDepth 100000
namespace Go.Proofs.YtnapepbdohidgaaGreatDoorQ
section
open Go
open Go.Conc Go.ConcX Go.ConcX.Gen Go.RowKit
section
variable {A:Nat->Prop} {B k0:Nat} {w:World} {st:St} {L:Lg}
theorem qv (h:aZ A B w k0 st L)(hB:B<=w.heap.size)(hop:L.opened.length<=3)(o:OpD)(hk:o.kind=10):
  Calls Yq.prog 33 #[.pointer (some ⟨k0,0,none⟩),cN o] w (bC A B k0 w st L ⟨0,st.count,⟨#[]⟩,L.opened.map ik,⟨#[]⟩⟩):=by
 have hd0:aZ A B (cC w o).drew k0 st L:=h.left ((aO o).drew)
 have HT:=xx (cC w o).drew hd0.ls hop
 have HN:=zH k0 st.count (cC w o).drew hd0.store.count
 obtain ⟨its,hits⟩:∃its,its=L.opened.map ik:=⟨_,rfl⟩
 rw [<-hits] at HT ⊢
 have hLd:aj (cC w o) (cC w o).drew:=aj.refl.drew
 have hkw:k0<(cC w o).heap.size:=by have:=h.ls.lt;rw [aU];omega
 have HB:Hid (∀w1,Below (cC w o).drew.heap.size (cC w o).drew w1->_):=fun w1 hb=>box5 (oJ o h.ls (FrC.left hkw (hLd.trans (.below hb))))
 have HF:Hid (∀w1 so sn sc x0 x1 x2 x3 x4,Below (cC w o).drew.heap.size (cC w o).drew w1->w1.ownsRow (cC w o).drew.heap.size 41 3 (.slice so sn sc) its.length (aq its)->bC A B k0 w st L ⟨0,st.count,⟨#[]⟩,its,⟨#[]⟩⟩ (.returned (il ⟨0,st.count,⟨#[]⟩,its,⟨#[]⟩⟩ (.slice so sn sc))) (put5 w1 (w.heap.size+1) x0 x1 x2 x3 x4)):=fun w1 so sn sc x0 x1 x2 x3 x4 hb hrow=>by
  have hl:aj (cC w o) w1:=hLd.trans (.below hb)
  obtain ⟨A',a1,a2,a3,a4,a5,a6⟩:=aQ.page (h.ls.left (aO o)) hl hrow (lR _) (fun _ _ _=>rfl)
  have d1:=(h.left (aO o)).step a4 a1 a3
  obtain ⟨e1,e2,e3,e4⟩:=oH (A':=A') (sv:=.slice so sn sc) (its:=its) (r:=w.heap.size+1) (aO o) h.ls.lt hB (by omega) (by rw [aU];omega) ⟨_,gV o,rfl⟩ a1 a2 h.ls.inn d1 a4.weak a6 (gE o h.ls) a5 x0 x1 x2 x3 x4
  exact ⟨_,rfl,A',a1,e1,e2,e3,e4⟩
 have hb1:=uX
 clear hits hd0 hLd hkw
 obtain ⟨kind,key,body,delim,past,n,src⟩:=o
 simp only at hk
 subst hk
 unfold cC at HT HF HB HN
 clear h
 unfold cN
 go_enter Yq.func33,Tryz.ntmps33
 go_wp2_with fail
 go_region_with (first
  |(go_at_call 46;refine HN.mono ?_;rintro e w1 ⟨rfl,rfl⟩)
  |(go_at_call 47;refine HT.mono ?_;rintro e w1 ⟨sv,rfl,hrow,hb⟩;obtain ⟨so,sc,rfl,-⟩:=aH hrow;obtain ⟨⟨b0,b1,b2,b3,b4⟩,f0,f1,f2,f3,f4⟩:=HB.out w1 hb))
 all_goals
  go_wp2
  exact bodyPost_ret (v:=il ⟨0,st.count,⟨#[]⟩,its,⟨#[]⟩⟩ (.slice so its.length sc)) (by simp [results,Tryz.results33,go_sem,il,b0,b1,b2,b3,b4]) rfl (HF.out w1 _ _ _ _ _ _ _ _ hb hrow)
end
def mG (R:Lg×List ItD×ByteArray×Int):je:=⟨R.2.2.2,0,⟨#[]⟩,R.2.1,R.2.2.1⟩
def stepA (st:St)(L:Lg)(toks:List ByteArray)(o:OpD):St×Lg×je:=
 if o.kind=6 then (st,(eE L st.f ⟨false,o.key,o.delim,o.past⟩ o.n).1,mG (eE L st.f ⟨false,o.key,o.delim,o.past⟩ o.n))
 else if o.kind=7 then (st,(eE L st.f ⟨true,o.key,o.delim,o.past⟩ o.n).1,mG (eE L st.f ⟨true,o.key,o.delim,o.past⟩ o.n))
 else if o.kind=8 then (st,(dC L (dG toks o.src o.body)).1,mG (dC L (dG toks o.src o.body)))
 else if o.kind=9 then (st,(gD L o.n).1,⟨(gD L o.n).2,0,⟨#[]⟩,[],⟨#[]⟩⟩)
 else if o.kind=10 then (st,L,⟨0,st.count,⟨#[]⟩,L.opened.map ik,⟨#[]⟩⟩)
 else ((bF st o).1,L,⟨(bF st o).2.code,(bF st o).2.ver,(bF st o).2.body,[],⟨#[]⟩⟩)
structure dB (Qok:Qy->Prop)(o:OpD):Prop where
 k11:o.kind≠11
 k12:o.kind≠12
 q:o.kind=6->Qok ⟨false,o.key,o.delim,o.past⟩
 q7:o.kind=7->Qok ⟨true,o.key,o.delim,o.past⟩
structure qw (Qok:Qy->Prop)(L:Lg)(s:Nat):Prop where
 len:L.opened.length<=3
 left:∀x∈L.opened,0<=x.left/\x.left<=10
 ok:∀x∈L.opened,Qok x.q/\gQ (cX x.f x.q.p.data.toList)<=1000/\x.q.p.size<=maxLen
 begun:0<=L.begun/\L.begun<=s
 told:∀tok n pg,dk tok L.told=some (n,pg)->(0<=n/\n<=s)/\0<=pg/\pg<=s+1
theorem gW (k k':ByteArray)(x:Int×Int)(t:Told):dk k (ii k' x t)=if k=k' then some x else dk k t:=by
 induction t with
 |nil=>simp [ii,dk]
 |cons a r ih=>
  obtain ⟨a1,a2⟩:=a
  by_cases h:k'=a1
  ·subst h
   simp only [ii,if_true,dk]
   by_cases h2:k=k'<;>simp [h2]
  ·simp only [ii,if_neg h,dk,ih]
   by_cases h2:k=a1
   ·subst h2
    rw [if_pos rfl,if_neg (fun e=>h e.symm),if_pos rfl]
   ·rw [if_neg h2,if_neg h2]
theorem mF.sum {st:St}(h:mF st)(p:List UInt8):gQ (cX st.f p)<=1000:=by
 have h2:=wY p 41 st.f
 have h3:gQ (cX st.f p)=tot (41-p.length) fun k=>st.f (p++k):=mg _ _ _ _
 have:=h.cnt
 have:=h.le
 omega
section
variable {Qok:Qy->Prop} {L:Lg} {s:Nat} {st:St}
theorem qw.mono (h:qw Qok L s){s':Nat}(hs:s<=s'):qw Qok L s':=
 ⟨h.len,h.left,h.ok,⟨h.begun.1,by have:=h.begun.2;omega⟩,fun tok n pg e=>by have:=h.told tok n pg e;omega⟩
theorem qw.beg (h:qw Qok L s)(hT:mF st)(q:Qy)(n:Int)(hq:Qok q)(hp:q.p.size<=maxLen):qw Qok (eE L st.f q n).1 (s+1):=by
 have hb:=h.begun
 unfold eE
 split
 ·exact h.mono (by omega)
 ·split
  ·exact h.mono (by omega)
  ·split
   ·exact h.mono (by omega)
   ·refine ⟨by simp only [List.length_append,List.length_singleton];omega,fun x hx=>?_,fun x hx=>?_,⟨by simp only;omega,by simp only;omega⟩,fun tok n' pg e=>?_⟩
    ·rcases List.mem_append.1 hx with hx|hx
     ·exact h.left x hx
     ·simp only [List.mem_singleton] at hx
      subst hx
      exact ⟨by simp [gY],by simp [gY]⟩
    ·rcases List.mem_append.1 hx with hx|hx
     ·exact h.ok x hx
     ·simp only [List.mem_singleton] at hx
      subst hx
      exact ⟨hq,hT.sum _,hp⟩
    ·simp only [gW] at e
     split at e
     ·cases e;omega
     ·have:=h.told tok n' pg e;omega
theorem qw.next (h:qw Qok L s)(tok:ByteArray):qw Qok (dC L tok).1 (s+1):=by
 unfold dC
 split
 ·exact h.mono (by omega)
 ·rename_i n pg e1
  split
  ·exact h.mono (by omega)
  ·split
   ·exact h.mono (by omega)
   ·rename_i i e2 x e3
    have hx:x∈L.opened:=List.mem_of_getElem? e3
    have hb:=h.begun
    refine ⟨by simpa using h.len,fun y hy=>?_,fun y hy=>?_,⟨hb.1,by simp only;omega⟩,fun tok' n' pg' e=>?_⟩
    ·rcases List.mem_or_eq_of_mem_set hy with hy|rfl
     ·exact h.left y hy
     ·exact ⟨by simp [LsA.again],by simp [LsA.again]⟩
    ·rcases List.mem_or_eq_of_mem_set hy with hy|rfl
     ·exact h.ok y hy
     ·exact h.ok x hx
    ·simp only at e
     split at e
     ·have:=h.told tok' n' pg' e;omega
     ·rw [gW] at e
      split at e
      ·cases e
       have:=h.told tok n pg e1;omega
      ·have:=h.told tok' n' pg' e;omega
theorem qw.tick (h:qw Qok L s)(u:Int):qw Qok (gD L u).1 (s+1):=by
 unfold gD
 split
 ·exact h.mono (by omega)
 ·rename_i hu
  have hb:=h.begun
  refine ⟨?_,fun y hy=>?_,fun y hy=>?_,⟨hb.1,by simp only [oG];omega⟩,fun tok n pg e=>by have:=h.told tok n pg e;omega⟩
  ·have:=List.length_filter_le (fun x:LsA=>!decide (x.left<=0)) (L.opened.map fun x=>x.again (x.left-u))
   rw [List.length_map] at this
   exact Nat.le_trans this h.len
  ·simp only [oG,List.mem_filter,List.mem_map] at hy
   obtain ⟨⟨x,hx,rfl⟩,hy⟩:=hy
   have:=h.left x hx
   have hy':¬(x.left-u<=0):=fun e=>by simp [LsA.again,e] at hy
   show 0<=x.left-u/\x.left-u<=10
   omega
  ·simp only [oG,List.mem_filter,List.mem_map] at hy
   obtain ⟨⟨x,hx,rfl⟩,hy⟩:=hy
   exact h.ok x hx
theorem qw.step (h:qw Qok L s)(hT:mF st)(toks:List ByteArray)(o:OpD)(hk:dB Qok o)(hp:o.key.size<=maxLen):qw Qok (stepA st L toks o).2.1 (s+1):=by
 unfold stepA
 split
 ·rename_i h6;exact h.beg hT _ _ (hk.q h6) hp
 ·split
  ·rename_i h7;exact h.beg hT _ _ (hk.q7 h7) hp
  ·split
   ·exact h.next _
   ·split
    ·exact h.tick _
    ·split
     ·exact h.mono (by omega)
     ·exact h.mono (by omega)
theorem mF.stepA (hT:mF st)(toks:List ByteArray)(o:OpD):mF (stepA st L toks o).1:=by
 unfold Go.Proofs.YtnapepbdohidgaaGreatDoorQ.stepA
 repeat' split
 all_goals first|exact hT|exact hT.step o
theorem Inv.stepA (hI:Inv st s)(toks:List ByteArray)(o:OpD):Inv (stepA st L toks o).1 (s+1):=by
 have hm:Inv st (s+1):=⟨hI.last0,by have:=hI.lastS;omega,by have:=hI.countL;omega,by have:=hI.countU;omega,hI.sorted,hI.bounds⟩
 unfold Go.Proofs.YtnapepbdohidgaaGreatDoorQ.stepA
 repeat' split
 all_goals first|exact hm|exact hI.step o
end
def im (Qok:Qy->Prop)(K:OpD->Prop)(G:World->Prop)(N:Nat):Prop:=
 ∀ {A:Nat->Prop} {B k0:Nat} {w:World} {st:St} {L:Lg} (_:aZ A B w k0 st L) (_:B<=w.heap.size) (_:∀w',aK A B k0 w w'->G w') (o:OpD) (_:K o) (_:dB Qok o) (_:o.key.size<=maxLen) (_:o.body.size<=maxLen) {s:Nat} (_:Inv st s) (_:mF st) (_:qw Qok L s) (_:s<N)
  (g0 cp:Nat) (toks:List ByteArray) (_:toks.length=s) (_:w.cell? ⟨k0,8,none⟩=some (.slice (some ⟨g0,0,none⟩) s cp)) (_:∀i (hi:i<toks.length),w.cell? ⟨g0,i * 5+4,none⟩=some (.string toks[i])),
  Calls Yq.prog 33 #[.pointer (some ⟨k0,0,none⟩),cN o] w fun e w'=>bC A B k0 w (stepA st L toks o).1 (stepA st L toks o).2.1 (stepA st L toks o).2.2 e w'\/Stop Qok e w'
structure Dk where
 st:St
 L:Lg
 al:List je
def Dk.toks (d:Dk):List ByteArray:=d.al.map (·.tok)
def dD (d:Dk)(o:OpD):Dk:=⟨(stepA d.st d.L d.toks o).1,(stepA d.st d.L d.toks o).2.1,d.al++[(stepA d.st d.L d.toks o).2.2]⟩
def dk0:Dk:=⟨st0,⟨[],0,[]⟩,[]⟩
def bK (ops:List OpD):Dk:=ops.foldl dD dk0
theorem gF (a:List OpD)(o:OpD):bK (a++[o])=dD (bK a) o:=by simp [bK]
theorem xE (ops:List OpD):∀d:Dk,(ops.foldl dD d).al.length=d.al.length+ops.length:=by
 induction ops with
 |nil=>intro d;rfl
 |cons o r ih=>intro d;rw [List.foldl_cons,ih];simp [dD];omega
theorem kQ (ops:List OpD):(bK ops).al.length=ops.length:=by rw [bK,xE];simp [dk0]
structure Al (Qok:Qy->Prop)(d:Dk)(s:Nat):Prop where
 i:Inv d.st s
 t:mF d.st
 l:qw Qok d.L s
 n:d.al.length=s
theorem CC (Qok:Qy->Prop):Al Qok dk0 0:=⟨inv0,Cz,⟨by simp [dk0],by simp [dk0],by simp [dk0],by simp [dk0],by simp [dk0,dk]⟩,rfl⟩
theorem Al.step {Qok:Qy->Prop}{d:Dk}{s:Nat}(h:Al Qok d s)(o:OpD)(hk:dB Qok o)(hp:o.key.size<=maxLen):Al Qok (dD d o) (s+1):=
 ⟨h.i.stepA _ o,h.t.stepA _ o,h.l.step h.t _ o hk hp,by simp [dD,h.n]⟩
theorem xF {Qok:Qy->Prop}(ops:List OpD):∀ (d:Dk)(s:Nat),(∀o∈ops,dB Qok o/\o.key.size<=maxLen)->Al Qok d s->Al Qok (ops.foldl dD d) (s+ops.length):=by
 induction ops with
 |nil=>intro d s _ h;exact h
 |cons o r ih=>
  intro d s hk h
  have:=ih (dD d o) (s+1) (fun x hx=>hk x (by simp [hx])) (h.step o (hk o (by simp)).1 (hk o (by simp)).2)
  rw [List.foldl_cons,List.length_cons,show s+(r.length+1)=s+1+r.length by omega]
  exact this
theorem tB {Qok:Qy->Prop}(ops:List OpD)(hk:∀o∈ops,dB Qok o/\o.key.size<=maxLen):Al Qok (bK ops) ops.length:=by
 have:=xF ops dk0 0 hk (CC Qok)
 rwa [zA] at this
def bZ (zs:List (je×Value)):List Value:=zs.flatMap fun z=>[.int .i64 z.1.code,.int .i64 z.1.ver,.string z.1.body,z.2,.string z.1.tok]
theorem uZ (zs:List (je×Value)):(bZ zs).length=zs.length * 5:=gO 5 _ (fun _=>rfl) zs
theorem r4 (zs:List (je×Value))(z:je×Value):bZ (zs++[z])=bZ zs++[.int .i64 z.1.code,.int .i64 z.1.ver,.string z.1.body,z.2,.string z.1.tok]:=by simp [bZ]
theorem mt:∀ (zs:List (je×Value))(i:Nat)(hi:i<zs.length),(bZ zs)[i * 5]?=some (.int .i64 zs[i].1.code)/\(bZ zs)[i * 5+1]?=some (.int .i64 zs[i].1.ver)/\(bZ zs)[i * 5+2]?=some (.string zs[i].1.body)/\(bZ zs)[i * 5+3]?=some zs[i].2/\(bZ zs)[i * 5+4]?=some (.string zs[i].1.tok)
 | [],i,hi=>by simp at hi
 |z::zs,0,hi=>by simp [bZ]
 |z::zs,i+1,hi=>by
  have ih:=mt zs i (by simpa using hi)
  have e:bZ (z::zs)=[.int .i64 z.1.code,.int .i64 z.1.ver,.string z.1.body,z.2,.string z.1.tok]++bZ zs:=by simp [bZ]
  have hh:∀j,(bZ (z::zs))[(i+1) * 5+j]?=(bZ zs)[i * 5+j]?:=fun j=>by
   rw [e,List.getElem?_append_right (by simp;omega)]
   congr 1
   simp
   omega
  simp only [List.getElem_cons_succ]
  exact ⟨(hh 0).trans ih.1,(hh 1).trans ih.2.1,(hh 2).trans ih.2.2.1,(hh 3).trans ih.2.2.2.1,(hh 4).trans ih.2.2.2.2⟩
def qx (A:Nat->Prop)(w:World)(zs:List (je×Value)):Prop:=∀z∈zs,bE A w z.2 z.1.items.length (aq z.1.items)
def fc (ops:List OpD)(w:World)(e:Ending)(w':World):Prop:=
 ∃ (A:Nat->Prop) (zs:List (je×Value)),e=.returned (.slice (some ⟨w.heap.size,0,none⟩) ops.length ops.length)/\zs.map (·.1)=(bK ops).al/\w'.ownsRow w.heap.size 36 5 (.slice (some ⟨w.heap.size,0,none⟩) ops.length ops.length) ops.length (bZ zs)/\qx A w' zs/\(∀b,A b->w.heap.size<b)/\aj w w'
section
variable {A:Nat->Prop} {B k0:Nat} {w w':World} {st:St} {L:Lg}
theorem aZ.apart {g0:Nat}(h:aZ A B w k0 st L)(hsz:w.heap.size<=w'.heap.size)(hne:∀b,b<w.heap.size->b≠k0->b≠g0->w'.heap[b]?=w.heap[b]?)(hA:¬A g0)(hgB:g0<B)(hc:∀j,j<7->w'.cell? ⟨k0,j,none⟩=w.cell? ⟨k0,j,none⟩)(hf:∀j,w'.frozen? ⟨k0,j,none⟩=w.frozen? ⟨k0,j,none⟩):aZ A B w' k0 st L:=by
 have hAk:=h.ls.avoid
 have hlow:=h.ls.low
 have hN:∀n p f,ai A n w p f->ai A n w' p f:=fun n p f hn=>ai.keep (fun b hb hlt=>⟨hb,hne b hlt (fun e=>hAk (e▸hb)) (fun e=>hA (e▸hb))⟩) n p f hn
 obtain ⟨n,c3⟩:=h.time
 obtain ⟨p,c0,hp⟩:=h.store.tree
 obtain ⟨v,c4,zs,z1,z2,z3,z4⟩:=h.ls.opened
 obtain ⟨mv,c6,hm⟩:=h.ls.told
 refine ⟨⟨h.store.avoid,⟨p,(hc 0 (by omega)).trans c0,hN _ _ _ hp⟩,(hc 1 (by omega)).trans h.store.count,(hc 2 (by omega)).trans h.store.last,fun j=>(hf j).trans (h.store.frozen j)⟩,⟨⟨v,(hc 4 (by omega)).trans c4,zs,z1,bh z2 fun g h1 hg=>hne g hg (by omega) (by omega),z3,fun z hz=>hN _ _ _ (z4 z hz)⟩,(hc 5 (by omega)).trans h.ls.begun,⟨mv,(hc 6 (by omega)).trans c6,?_⟩,fun j=>(hf j).trans (h.ls.frozen j),h.ls.avoid,h.ls.low,fun b hb=>by have:=h.ls.inn b hb;omega⟩,n,(hc 3 (by omega)).trans c3⟩
 rcases hm with hm|⟨m,es,clock,m1,m2,m3,m4,m5⟩
 ·exact .inl hm
 ·have hml:=(eS m2).1
  exact .inr ⟨m,es,clock,m1,(hne m hml (by omega) (by omega)).trans m2,m3,m4,m5⟩
theorem xG {c7 c8:Value}{T:TypeId}:aZ (fun _=>False) (w.heap.size+1) (w.alloc (.cells #[.pointer none,.int .i64 0,.int .i64 0,.int .u64 0,.slice none 0 0,.int .i64 0,.map none,c7,c8] T)) w.heap.size st0 ⟨[],0,[]⟩:=by
 have hd:∀j,(w.alloc (.cells #[.pointer none,.int .i64 0,.int .i64 0,.int .u64 0,.slice none 0 0,.int .i64 0,.map none,c7,c8] T)).cell? ⟨w.heap.size,j,none⟩=(#[.pointer none,.int .i64 0,.int .i64 0,.int .u64 0,.slice none 0 0,.int .i64 0,.map none,c7,c8]:Array Value)[j]?:=fun j=>World.cell?_alloc_at (w:=w) _ _ w.heap.size j rfl
 have hf:∀j,(w.alloc (.cells #[.pointer none,.int .i64 0,.int .i64 0,.int .u64 0,.slice none 0 0,.int .i64 0,.map none,c7,c8] T)).frozen? ⟨w.heap.size,j,none⟩=false:=fun j=>World.frozen?_alloc_at (w:=w) _ _ w.heap.size j rfl
 refine ⟨⟨fun _ h=>h.elim,⟨none,hd 0,ai.nil (fun _=>rfl)⟩,hd 1,hd 2,hf⟩,⟨⟨_,hd 4,[],rfl,⟨by simp [aV],.inl ⟨rfl,rfl⟩⟩,fun g h=>by simp [Value.ownBlock] at h,fun z hz=>by simp at hz⟩,hd 5,⟨_,hd 6,.inl ⟨rfl,rfl⟩⟩,hf,fun h=>h,by omega,fun _ h=>h.elim⟩,0,hd 3⟩
theorem BC {zs:List (je×Value)}{al:List je}(hz:zs.map (·.1)=al){base n cap g:Nat}{T:TypeId}(h:w.ownsRow base T 5 (.slice (some ⟨g,0,none⟩) n cap) n (bZ zs)):∀i (hi:i<(al.map (·.tok)).length),w.cell? ⟨g,i * 5+4,none⟩=some (.string (al.map (·.tok))[i]):=by
 subst hz
 intro i hi
 have hi':i<zs.length:=by simpa using hi
 have:=(mt zs i hi').2.2.2.2
 rw [h.cellAt _ (by have:=h.1;rw [uZ] at this;omega)]
 simpa using this
end
theorem Qu5 {A:Nat->Prop}{B k0:Nat}{w w':World}(h:fv A B k0 w w'){base n cap g:Nat}{T:TypeId}{xs:List Value}(ho:w.ownsRow base T 5 (.slice (some ⟨g,0,none⟩) n cap) n xs)(hB:g<B)(hk:g≠k0):w'.ownsRow base T 5 (.slice (some ⟨g,0,none⟩) n cap) n xs:=
 fI ho fun g' hg'=>by
  simp [Value.ownBlock] at hg'
  subst hg'
  exact h.low _ hB (ho.lt _ rfl).2 hk
structure xV (Qok:Qy->Prop)(ops:List OpD)(n k0:Nat)(w wr:World)(i:Nat)(A:Nat->Prop)(zs:List (je×Value)):Prop where
 desk:aZ A (k0+1) wr k0 (bK (ops.take i)).st (bK (ops.take i)).L
 above:∀b,A b->w.heap.size<b
 c8:wr.cell? ⟨k0,8,none⟩=some (.slice (some ⟨w.heap.size,0,none⟩) i n)
 own:wr.ownsRow w.heap.size 36 5 (.slice (some ⟨w.heap.size,0,none⟩) i n) i (bZ zs)
 al:zs.map (·.1)=(bK (ops.take i)).al
 rows:qx A wr zs
 left:aj w wr
 k0:w.heap.size<k0
theorem xV.leftD {Qok:Qy->Prop}{ops:List OpD}{n k0 i:Nat}{w wr W1 w':World}{A:Nat->Prop}{zs:List (je×Value)}(h:xV Qok ops n k0 w wr i A zs)(hl:aj wr W1)(hd:aK A (k0+1) k0 W1 w'):aj w w':=by
 have h0:=h.left
 have hk:=h.k0
 have hs:=h0.size
 have hs1:=hl.size
 refine ⟨hd.os.trans (hl.os.trans h0.os),by have:=hd.size;omega,fun b hb=>?_⟩
 rw [hd.low b (by omega) (by omega) (by omega),hl.block b (by omega),h0.block b hb]
theorem xV.next {Qok:Qy->Prop}{ops:List OpD}{n k0 i:Nat}{w wr W1 w2 w3:World}{A:Nat->Prop}{zs:List (je×Value)}(h:xV Qok ops n k0 w wr i A zs)(hi:i<ops.length)(hl:aj wr W1){sv:Value}{X:Obj}(hp:bC A (k0+1) k0 W1 (stepA (bK (ops.take i)).st (bK (ops.take i)).L (bK (ops.take i)).toks ops[i]).1 (stepA (bK (ops.take i)).st (bK (ops.take i)).L (bK (ops.take i)).toks ops[i]).2.1 (stepA (bK (ops.take i)).st (bK (ops.take i)).L (bK (ops.take i)).toks ops[i]).2.2 (.returned (il (stepA (bK (ops.take i)).st (bK (ops.take i)).L (bK (ops.take i)).toks ops[i]).2.2 sv)) w2)
  (ho:w3.ownsRow w.heap.size 36 5 (.slice (some ⟨w.heap.size,0,none⟩) (i+1) n) (i+1) (bZ (zs++[((stepA (bK (ops.take i)).st (bK (ops.take i)).L (bK (ops.take i)).toks ops[i]).2.2,sv)]))) (hg:(w2.alloc X).grownBy w3 (some w.heap.size)) (hfz:w3.cell? ⟨k0,8,none⟩=some (.slice (some ⟨w.heap.size,0,none⟩) i n)):
  ∃A',xV Qok ops n k0 w (w3.setCell ⟨k0,8,none⟩ (.slice (some ⟨w.heap.size,0,none⟩) (i+1) n)) (i+1) A' (zs++[((stepA (bK (ops.take i)).st (bK (ops.take i)).L (bK (ops.take i)).toks ops[i]).2.2,sv)]):=by
 obtain ⟨sv',he,A',a1,a2,hd,hw,hrow⟩:=hp
 have hsv:sv'=sv:=by
  simp [il] at he
  exact he.symm
 subst hsv
 have htk:ops.take (i+1)=ops.take i++[ops[i]]:=List.take_succ_eq_append_getElem hi
 have hrd:bK (ops.take (i+1))=dD (bK (ops.take i)) ops[i]:=by rw [htk,gF]
 have hk:=h.k0
 have hs0:=h.left.size
 have hs1:=hl.size
 have hs2:=hw.size
 have hs3:=hg.size
 simp at hs3
 have hne:∀b,b<w2.heap.size->b≠k0->b≠w.heap.size->(w3.setCell ⟨k0,8,none⟩ (.slice (some ⟨w.heap.size,0,none⟩) (i+1) n)).heap[b]?=w2.heap[b]?:=fun b hb h1 h2=>by
  rw [Below.heap_setCell _ _ _ _ h1,hg.block b (by simp;omega) (fun e=>h2 (Option.some.inj e)),Below.heap_alloc _ _ _ hb]
 have hlk:k0<w2.heap.size:=hd.ls.lt
 have hk3:w3.heap[k0]?=w2.heap[k0]?:=by
  rw [hg.block k0 (by simp;omega) (fun e=>by have:=Option.some.inj e;omega),Below.heap_alloc _ _ _ hlk]
 have ha':∀b,A' b->w.heap.size<b:=fun b hb=>by
  rcases a2 b hb with h1|h1
  ·exact h.above b h1
  ·have:=h.desk.ls.lt;omega
 have hc:∀j,j≠8->(w3.setCell ⟨k0,8,none⟩ (.slice (some ⟨w.heap.size,0,none⟩) (i+1) n)).cell? ⟨k0,j,none⟩=w2.cell? ⟨k0,j,none⟩:=fun j hj=>by
  rw [World.cell?_setCell_other _ _ _ _ (bB (fun e=>hj e.symm))]
  exact cB (a:=⟨k0,j,none⟩) hk3
 have hf:∀j,(w3.setCell ⟨k0,8,none⟩ (.slice (some ⟨w.heap.size,0,none⟩) (i+1) n)).frozen? ⟨k0,j,none⟩=w2.frozen? ⟨k0,j,none⟩:=fun j=>by
  rw [World.frozen?_setCell]
  exact World.frozen?_of_block (a:=⟨k0,j,none⟩) hk3
 refine ⟨A',?_,ha',World.cell?_setCell_same' _ _ _ (by rw [hfz];rfl),?_,?_,?_,?_,h.k0⟩
 ·rw [hrd]
  show aZ A' (k0+1) _ k0 (stepA _ _ _ _).1 (stepA _ _ _ _).2.1
  exact hd.apart (g0:=w.heap.size) (by simp;omega) hne (fun hx=>by have:=ha' _ hx;omega) (by omega) (fun j hj=>hc j (by omega)) hf
 ·exact fI ho fun g hg'=>by
   simp [Value.ownBlock] at hg'
   subst hg'
   exact Below.heap_setCell _ _ _ _ (by show w.heap.size≠k0;omega)
 ·rw [hrd,List.map_append,h.al]
  rfl
 ·intro z hz
  have hkeep:∀ {v:Value} {m:Nat} {xs:List Value},bE A' w2 v m xs->bE A' (w3.setCell ⟨k0,8,none⟩ (.slice (some ⟨w.heap.size,0,none⟩) (i+1) n)) v m xs:=fun hr=>bE.keep hr fun b hb hlt=>⟨hb,hne b hlt (fun e=>hd.ls.avoid (e▸hb)) (fun e=>by have:=ha' b hb;omega)⟩
  rcases List.mem_append.1 hz with hz|hz
  ·refine hkeep (bE.keep (h.rows z hz) fun b hb hlt=>⟨a1 b hb,?_⟩)
   rw [hw.tree b hb (by omega),hl.block b hlt]
  ·simp only [List.mem_singleton] at hz
   subst hz
   exact hkeep hrow
 ·refine ⟨?_,by simp;omega,fun b hb=>?_⟩
  ·show w3.os=w.os
   rw [hg.os]
   exact hw.os.trans (hl.os.trans h.left.os)
  ·have hkk:=h.desk.ls.lt
   rw [hne b (by omega) (by omega) (by omega),hw.low b (by omega) (by omega) (by omega),hl.block b (by omega),h.left.block b hb]
theorem zP (Qok:Qy->Prop)(K:OpD->Prop)(G:World->Prop)(N:Nat)(hAns:im Qok K G N)(b off cap:Nat)(ops:List OpD)(w:World)(hG:∀w',aj w w'->G w')(hS:kO w b off ops)(hz:Sized ops)(hn:ops.length<=N)(hN:N<2199023255540)(hko:∀o∈ops,dB Qok o)(hkk:∀o∈ops,K o):
  Calls Yq.prog 18 #[.slice (some ⟨b,off,none⟩) ops.length cap] w fun e w'=>fc ops w e w'\/Stop Qok e w':=by
 obtain ⟨i0,hi0,hz0,hz1,hz2⟩:=info_parts Yq.infoAns
 have HSc:Hid (kO w b off ops/\Sized ops):=⟨hS,hz⟩
 have HPL:Hid (∀o∈ops,dB Qok o):=hko
 have HAN0:Hid (im Qok K G N):=hAns
 have HGG:Hid (∀w',aj w w'->G w'):=hG
 have HKK:Hid (∀o∈ops,K o):=hkk
 have HRP:Hid (∀e w',fc ops w e w'↔fc ops w e w'):=fun _ _=>Iff.rfl
 obtain ⟨P,hP⟩:∃P:Ending->World->Prop,P=fun e w'=>fc ops w e w'\/Stop Qok e w':=⟨_,rfl⟩
 have HP1:Hid (∀e w',fc ops w e w'->P e w'):=fun e w' h=>by rw [hP];exact .inl h
 have HP2:Hid (∀e w',Stop Qok e w'->P e w'):=fun e w' h=>by rw [hP];exact .inr h
 rw [<-hP]
 obtain ⟨n,hnl⟩:∃n,ops.length=n:=⟨_,rfl⟩
 have HN:Hid (ops.length=n):=hnl
 rw [hnl] at hn ⊢
 clear hS hz hnl hko hAns hP HRP hkk hG
 go_enter Yq.func18,Tryz.ntmps18
 go_wp2_with (at_make;refine wpList_make_own _ rfl _ _ 27 rfl w.heap.size 36 i0 _ 5 Yq.underlying27 hi0 hz0 hz1 _ _ _ n rfl rfl (by omega) ?qb1 ?qb2 ?qb3 ?_)
 case qb1=>rw [hz2];omega
 case qb2=>simp only [maxLen];omega
 case qb3=>simp
 intro w1 hown1 hgrow1
 have hlt1:w.heap.size<w1.heap.size:=(hown1.lt w.heap.size rfl).2
 have b1:Below w.heap.size w w1:=⟨hgrow1.os,hgrow1.tape,hgrow1.output,hgrow1.size,fun k hk=>hgrow1.block k hk (by simp)⟩
 go_wp2_with fail
 obtain ⟨W0,hW0⟩:∃W0,W0=w1.alloc (.cells #[.pointer none,.int .i64 0,.int .i64 0,.int .u64 0,.slice none 0 0,.int .i64 0,.map none,.slice (some ⟨b,off,none⟩) n cap,.slice (some ⟨w.heap.size,0,none⟩) 0 n] 65):=⟨_,rfl⟩
 have HI0:Hid (xV Qok ops n w1.heap.size w W0 0 (fun _=>False) []):=by
  rw [hW0]
  exact ⟨xG,fun _ h=>h.elim,by rw [gT];rfl,hown1.alloc _,rfl,fun z hz=>by simp at hz,(aj.below b1).alloc _,hlt1⟩
 rw [<-hW0]
 generalize w1.heap.size=k0 at *
 clear b1 hown1 hgrow1 hW0
 go_loopw [5,13] (fun _ s12 wr=>∃ (i:Nat) (A:Nat->Prop) (zs:List (je×Value)),i<=n/\s12=.int .i64 i/\xV Qok ops n k0 w wr i A zs) (fun _ s12 _=>n-(intOf s12).toNat)
 case atStart=>exact ⟨0,fun _=>False,[],Nat.zero_le _,rfl,HI0.out⟩
 case round=>
  obtain ⟨i,A,zs,hin,rfl,HR0⟩:=hrel
  have HR:Hid (xV Qok ops n k0 w wr i A zs):=HR0
  clear HR0 HI0
  by_cases hlt:i<n
  ·have hlo:i<ops.length:=by rw [HN.out];exact hlt
   have hb:=HR.out.left
   obtain ⟨c0,c1,c2,c3,c4,c5,c6⟩:=HSc.out.1 i hlo
   replace c0:=hb.cell c0
   replace c1:=hb.cell c1
   replace c2:=hb.cell c2
   replace c3:=hb.cell c3
   replace c4:=hb.cell c4
   replace c5:=hb.cell c5
   replace c6:=hb.cell c6
   obtain ⟨hzk,hzb⟩:=HSc.out.2 ops[i] (List.getElem_mem hlo)
   have hk1:=HPL.out ops[i] (List.getElem_mem hlo)
   have hk2:=HKK.out ops[i] (List.getElem_mem hlo)
   have hID:Al Qok (bK (ops.take i)) i:=by
    have:=tB (Qok:=Qok) (ops.take i) (fun o ho=>⟨HPL.out o (List.mem_of_mem_take ho),(HSc.out.2 o (List.mem_of_mem_take ho)).1⟩)
    rwa [List.length_take,Nat.min_eq_left (by omega)] at this
   have HNX:∀ (W1 w2 w3:World) (sv:Value) (X:Obj),aj wr W1->bC A (k0+1) k0 W1 (stepA (bK (ops.take i)).st (bK (ops.take i)).L (bK (ops.take i)).toks ops[i]).1 (stepA (bK (ops.take i)).st (bK (ops.take i)).L (bK (ops.take i)).toks ops[i]).2.1 (stepA (bK (ops.take i)).st (bK (ops.take i)).L (bK (ops.take i)).toks ops[i]).2.2 (.returned (il (stepA (bK (ops.take i)).st (bK (ops.take i)).L (bK (ops.take i)).toks ops[i]).2.2 sv)) w2->w3.ownsRow w.heap.size 36 5 (.slice (some ⟨w.heap.size,0,none⟩) (i+1) n) (i+1) (bZ (zs++[((stepA (bK (ops.take i)).st (bK (ops.take i)).L (bK (ops.take i)).toks ops[i]).2.2,sv)]))->(w2.alloc X).grownBy w3 (some w.heap.size)->w3.cell? ⟨k0,8,none⟩=some (.slice (some ⟨w.heap.size,0,none⟩) i n)->∃A' zs',xV Qok ops n k0 w (w3.setCell ⟨k0,8,none⟩ (.slice (some ⟨w.heap.size,0,none⟩) (i+1) n)) (i+1) A' zs':=
    fun W1 w2 w3 sv X hl hp ho hg hc=>by
     obtain ⟨A',h⟩:=HR.out.next hlo hl hp ho hg hc
     exact ⟨A',_,h⟩
   obtain ⟨o,ho⟩:∃o,o=ops[i]:=⟨_,rfl⟩
   rw [<-ho] at HNX c0 c1 c2 c3 c4 c5 c6 hzk hzb hk1 hk2
   obtain ⟨kind,key,body,delim,past,nn,src⟩:=o
   simp only at c0 c1 c2 c3 c4 c5 c6 hzk hzb
   obtain ⟨W1,hW1⟩:∃W1,W1=wr.alloc (.cells #[.int .i64 kind,.string key,.string body,.string delim,.string past,.int .i64 nn,.int .i64 src] 31):=⟨_,rfl⟩
   have hLW:aj wr W1.drew:=by rw [hW1];exact (aj.refl.alloc _).drew
   have hkl:k0<wr.heap.size:=HR.out.desk.ls.lt
   have k8a:W1.drew.cell? ⟨k0,8,none⟩=some (.slice (some ⟨w.heap.size,0,none⟩) i n):=hLW.cell HR.out.c8
   have HAN:=HAN0.out (HR.out.desk.left hLW) (by have:=hLW.size;omega) (fun w' hd=>HGG.out w' (HR.out.leftD hLW hd)) ⟨kind,key,body,delim,past,nn,src⟩ hk2 hk1 hzk hzb hID.i hID.t hID.l (by omega) w.heap.size n (bK (ops.take i)).toks (by rw [Dk.toks,List.length_map];exact hID.n) k8a (fun j hj=>hLW.cell (BC HR.out.al HR.out.own j hj))
   generalize stepA (bK (ops.take i)).st (bK (ops.take i)).L (bK (ops.take i)).toks ⟨kind,key,body,delim,past,nn,src⟩=sr at HAN HNX
   obtain ⟨st',L',ad⟩:=sr
   obtain ⟨code,ver,abody,its,tok⟩:=ad
   simp only [cN] at HAN HNX
   have HNX1:Hid (∀ (w2 w3:World) (sv:Value) (X:Obj),bC A (k0+1) k0 W1.drew st' L' ⟨code,ver,abody,its,tok⟩ (.returned (il ⟨code,ver,abody,its,tok⟩ sv)) w2->w3.ownsRow w.heap.size 36 5 (.slice (some ⟨w.heap.size,0,none⟩) (i+1) n) (i+1) (bZ zs++[.int .i64 code,.int .i64 ver,.string abody,sv,.string tok])->(w2.alloc X).grownBy w3 (some w.heap.size)->w3.cell? ⟨k0,8,none⟩=some (.slice (some ⟨w.heap.size,0,none⟩) i n)->∃A' zs',xV Qok ops n k0 w (w3.setCell ⟨k0,8,none⟩ (.slice (some ⟨w.heap.size,0,none⟩) (i+1) n)) (i+1) A' zs'):=
    fun w2 w3 sv X hp ho hg hc=>HNX _ w2 w3 sv X hLW hp (by rw [r4];exact ho) hg hc
   have HCL:Hid (Calls Yq.prog 33 #[.pointer (some ⟨k0,0,none⟩),.agg #[.int .i64 kind,.string key,.string body,.string delim,.string past,.int .i64 nn,.int .i64 src]] W1.drew fun e w'=>(∃v,e=.returned v/\∃so sn sc,v=.agg #[.int .i64 code,.int .i64 ver,.string abody,.slice so sn sc,.string tok]/\bC A (k0+1) k0 W1.drew st' L' ⟨code,ver,abody,its,tok⟩ (.returned (il ⟨code,ver,abody,its,tok⟩ (.slice so sn sc))) w')\/∃ch,e=.panicked ch/\Stop Qok (.panicked ch) w'):=
    HAN.mono fun e w' h=>by
     rcases h with ⟨sv,rfl,A',a1,a2,a3,a4,a5⟩|hst
     ·obtain ⟨so,sc,rfl,a6⟩:=a5
      exact .inl ⟨_,rfl,so,_,sc,rfl,_,rfl,A',a1,a2,a3,a4,so,sc,rfl,a6⟩
     ·obtain ⟨x,y,r,rfl,hst⟩:=hst
      exact .inr ⟨_,rfl,x,y,r,rfl,hst⟩
   have HF8:Hid (∀w2 sv,bC A (k0+1) k0 W1.drew st' L' ⟨code,ver,abody,its,tok⟩ (.returned (il ⟨code,ver,abody,its,tok⟩ sv)) w2->w2.cell? ⟨k0,8,none⟩=some (.slice (some ⟨w.heap.size,0,none⟩) i n)/\(∀X:Obj,(w2.alloc X).ownsRow w.heap.size 36 5 (.slice (some ⟨w.heap.size,0,none⟩) i n) i (bZ zs))/\∀ (w3:World) (X:Obj),(w2.alloc X).grownBy w3 (some w.heap.size)->w3.cell? ⟨k0,8,none⟩=some (.slice (some ⟨w.heap.size,0,none⟩) i n)/\w3.frozen? ⟨k0,8,none⟩=false):=fun w2 sv hp=>by
    obtain ⟨_,-,A',-,-,hd,hw,-⟩:=hp
    have hk0:=HR.out.k0
    have e2:w2.cell? ⟨k0,8,none⟩=some (.slice (some ⟨w.heap.size,0,none⟩) i n):=(hw.cells 8 (by omega)).trans k8a
    have hlt2:=hd.ls.lt
    refine ⟨e2,fun X=>(Qu5 hw (bh HR.out.own fun g _ hg=>hLW.block g hg) (by omega) (by omega)).alloc X,fun w3 X hg3=>?_⟩
    have hk3:w3.heap[k0]?=w2.heap[k0]?:=by
     rw [hg3.block k0 (by simp;omega) (fun e=>by have:=Option.some.inj e;omega),Below.heap_alloc _ _ _ hlt2]
    exact ⟨(cB (a:=⟨k0,8,none⟩) hk3).trans e2,(World.frozen?_of_block (a:=⟨k0,8,none⟩) hk3).trans (hd.ls.frozen 8)⟩
   have HW1:Hid (W1=wr.alloc (.cells #[.int .i64 kind,.string key,.string body,.string delim,.string past,.int .i64 nn,.int .i64 src] 31)):=hW1
   have W1c:∀j,W1.drew.cell? ⟨wr.heap.size,j,none⟩=(#[.int .i64 kind,.string key,.string body,.string delim,.string past,.int .i64 nn,.int .i64 src]:Array Value)[j]?:=fun j=>by rw [hW1];exact gT wr _ _ j
   have q0:=W1c 0
   have q1:=W1c 1
   have q2:=W1c 2
   have q3:=W1c 3
   have q4:=W1c 4
   have q5:=W1c 5
   have q6:=W1c 6
   have HEN:Hid (∀ (args:Array Value) (wx:World),(callFunc 33 args).run Yq.prog wx=.ok (.enter 33 args) wx):=fun args wx=>by go_simp
   have k8n:=HR.out.c8
   clear W1c hW1 hb hID HNX HAN hk1 hk2 hzk hzb ho hLW
   simp only [gA,gZ,gS] at q0 q1 q2 q3 q4 q5 q6
   go_upto_region 5 with fail
   rw [<-HW1.out]
   go_region_law (first
    |(refine bT rfl 33 #[.tmp 3,.tmp 19] #[65,31] rfl #[.pointer (some ⟨k0,0,none⟩),.agg #[.int .i64 kind,.string key,.string body,.string delim,.string past,.int .i64 nn,.int .i64 src]] (by simp [Act.eval]) (HEN.out _ _) _ _ HCL.out (by intro ch w' hs;exact ⟨rfl,HP2.out _ _ hs⟩) ?_;rintro v w2 ⟨so,sn,sc,rfl,hp⟩;obtain ⟨k8b,o8,f8⟩:=HF8.out w2 _ hp;have k8d:(w2.alloc (.cells #[.int .i64 code,.int .i64 ver,.string abody,.slice so sn sc,.string tok] 36)).cell? ⟨k0,8,none⟩=some (.slice (some ⟨w.heap.size,0,none⟩) i n):=an k8b _;have HX2:Hid (bC A (k0+1) k0 W1.drew st' L' ⟨code,ver,abody,its,tok⟩ (.returned (il ⟨code,ver,abody,its,tok⟩ (.slice so sn sc))) w2):=hp;have HO8:Hid (∀X:Obj,(w2.alloc X).ownsRow w.heap.size 36 5 (.slice (some ⟨w.heap.size,0,none⟩) i n) i (bZ zs)):=o8;have HG8:Hid (∀ (w3:World) (X:Obj),(w2.alloc X).grownBy w3 (some w.heap.size)->w3.cell? ⟨k0,8,none⟩=some (.slice (some ⟨w.heap.size,0,none⟩) i n)/\w3.frozen? ⟨k0,8,none⟩=false):=f8;clear hp o8 f8)
    |(refine ky rfl (.tmp 18) (.tmp 21) 27 rfl w.heap.size 36 i0 5 Yq.underlying27 hi0 hz1 w.heap.size i n (bZ zs) (by simp [Act.eval]) (HO8.out _) ⟨w2.heap.size,0,none⟩ 1 1 [.int .i64 code,.int .i64 ver,.string abody,.slice so sn sc,.string tok] (by simp [Act.eval]) rfl (uU _ _ _ _ _ _ _) (by intro u hu;simp at hu;rcases hu with rfl|rfl|rfl|rfl|rfl<;>rfl) (by omega) ?_;intro w3 ho3 hg3;obtain ⟨k8c,f8c⟩:=HG8.out _ _ hg3;have HW3:Hid (w3.ownsRow w.heap.size 36 5 (.slice (some ⟨w.heap.size,0,none⟩) (i+1) n) (i+1) (bZ zs++[.int .i64 code,.int .i64 ver,.string abody,.slice so sn sc,.string tok])/\(w2.alloc (.cells #[.int .i64 code,.int .i64 ver,.string abody,.slice so sn sc,.string tok] 36)).grownBy w3 (some w.heap.size)):=⟨ho3,hg3⟩;clear ho3 hg3))
   all_goals
    go_wp2
    obtain ⟨A',zs',hI'⟩:=HNX1.out w2 w3 _ _ HX2.out HW3.out.1 HW3.out.2 k8c
    exact ⟨⟨i+1,A',zs',by omega,by go_num,hI'⟩,by simp [intOf];omega⟩
  ·have hie:i=n:=by omega
   subst hie
   have HT:Hid (ops.take i=ops):=List.take_of_length_le (by rw [HN.out];exact lR _)
   have c8:=HR.out.c8
   go_wp2
   refine HP1.out _ _ ⟨A,zs,by rw [HN.out];rfl,?_,?_,HR.out.rows,HR.out.above,HR.out.left⟩
   ·have:=HR.out.al
    rw [HT.out] at this
    exact this
   ·rw [HN.out]
    exact HR.out.own
end
section
open Go.RowKit
theorem iG (ops:List OpD)(i j:Nat)(hi:i<ops.length)(hj:j<7):(ops.flatMap aJ)[i * 7+j]?=(aJ ops[i])[j]?:=d7 7 aJ (fun _=>rfl) ops i j hi hj
theorem xH (w:World)(ops:List OpD)(cs:Array Value)(T:TypeId)(hcs:cs=(ops.flatMap aJ).toArray)(m:Nat)(hm:m=ops.length)(hz:Sized ops)(hl:ops.length<=2199023255552):br (w.alloc (.cells cs T)) (.slice (some ⟨w.heap.size,0,none⟩) m m) ops:=by
 subst hcs;subst hm
 refine ⟨⟨_,ops.length,rfl,fun _=>⟨w.heap.size,0,rfl,fun i hi=>?_⟩⟩,hz,hl⟩
 have h:∀j,j<7->(w.alloc (.cells (ops.flatMap aJ).toArray T)).cell? ⟨w.heap.size,0+i * 7+j,none⟩=(aJ ops[i])[j]?:=fun j hj=>by
  rw [zA,World.cell?_alloc_at (w:=w) _ _ w.heap.size _ rfl,<-iG ops i j hi hj];simp
 exact ⟨h 0 (by omega),h 1 (by omega),h 2 (by omega),h 3 (by omega),h 4 (by omega),h 5 (by omega),h 6 (by omega)⟩
theorem Yq.infoOp:(Yq.prog.info? 31).map (fun i=>(i.zero,i.size,i.bytes))=some (some (.agg #[.int .i64 0,.string ⟨#[]⟩,.string ⟨#[]⟩,.string ⟨#[]⟩,.string ⟨#[]⟩,.int .i64 0,.int .i64 0]),7,88):=by kernel_rfl
theorem eT (ops:List OpD):(ops.flatMap aJ).length=ops.length * 7:=gO 7 _ (fun _=>rfl) ops
theorem gG (ops:List OpD):∀u∈ops.flatMap aJ,u.oneCell'=true:=by
 intro u hu
 obtain ⟨o,_,hu⟩:=List.mem_flatMap.1 hu
 simp [aJ] at hu
 rcases hu with rfl|rfl|rfl|rfl|rfl|rfl|rfl<;>rfl
theorem iH {w:World}{base:Nat}{v:Value}{n:Nat}{ops:List OpD}(h:w.ownsRow base 31 7 v n (ops.flatMap aJ))(hn:n=ops.length)(hz:Sized ops)(hl:ops.length<=2199023255552):br w v ops:=by
 subst hn
 rcases h.2 with ⟨rfl,h0⟩|⟨g,cap,cur,rfl,hbg,hg,hnc,hcm,hcs,htake⟩
 ·have:ops=[]:=List.length_eq_zero_iff.1 h0
  subst this
  exact ⟨⟨none,0,rfl,fun h=>absurd rfl h⟩,hz,hl⟩
 ·refine ⟨⟨_,cap,rfl,fun _=>⟨g,0,rfl,fun i hi=>?_⟩⟩,hz,hl⟩
  have hc:∀j,j<7->w.cell? ⟨g,0+i * 7+j,none⟩=(aJ ops[i])[j]?:=fun j hj=>by
   rw [zA,<-iG ops i j hi hj];exact h.cellAt _ (by omega)
  exact ⟨hc 0 (by omega),hc 1 (by omega),hc 2 (by omega),hc 3 (by omega),hc 4 (by omega),hc 5 (by omega),hc 6 (by omega)⟩
theorem xI {w:World}{v:Value}{ops:List OpD}(h:br w v ops):(∃cap,v=.slice none 0 cap/\ops=[])\/∃ad cap,v=.slice (some ad) ops.length cap/\∀j u,(ops.flatMap aJ)[j]?=some u->w.cell? (ad.add j)=some u:=by
 obtain ⟨a,cap,rfl,hx⟩:=h.form
 cases a with
 |none=>
  by_cases hne:ops=[]
  ·subst hne;exact Or.inl ⟨cap,rfl,rfl⟩
  ·obtain ⟨b,off,e,_⟩:=hx hne;cases e
 |some ad=>
  refine Or.inr ⟨ad,cap,rfl,fun j u hj=>?_⟩
  have hne:ops≠[]:=by intro e;subst e;simp at hj
  obtain ⟨b,off,e,hS⟩:=hx hne
  cases e
  have hlt:=(List.getElem?_eq_some_iff.1 hj).1
  rw [eT] at hlt
  have hi:j / 7<ops.length:=by omega
  have hjj:j=j / 7 * 7+j % 7:=by omega
  have h7:j % 7<7:=Nat.mod_lt _ (by omega)
  obtain ⟨c0,c1,c2,c3,c4,c5,c6⟩:=hS (j / 7) hi
  have hg:=iG ops (j / 7) (j % 7) hi h7
  rw [<-hjj,hj] at hg
  rw [Addr.add_lit]
  generalize ops[j / 7]=o at *
  have hoff:off+j=off+j / 7 * 7+j % 7:=by omega
  rw [hoff]
  generalize j % 7=r at *
  have hr:r=0\/r=1\/r=2\/r=3\/r=4\/r=5\/r=6:=by omega
  rcases hr with rfl|rfl|rfl|rfl|rfl|rfl|rfl<;>simp only [aJ,gZ,gS,oI] at hg<;>subst hg<;>assumption
theorem Qu7 (w:World)(o:OpD)(T:TypeId):∀j u,(aJ o)[j]?=some u->(w.alloc (.cells #[.int .i64 o.kind,.string o.key,.string o.body,.string o.delim,.string o.past,.int .i64 o.n,.int .i64 o.src] T)).cell? ((⟨w.heap.size,0,none⟩:Addr).add j)=some u:=by
 intro j u hj
 rw [Addr.add_lit,World.cell?_alloc_at (w:=w) _ _ w.heap.size _ rfl]
 simpa [aJ] using hj
theorem one7 (o:OpD):∀u∈aJ o,u.oneCell'=true:=by
 intro u hu;simp [aJ] at hu;rcases hu with rfl|rfl|rfl|rfl|rfl|rfl|rfl<;>rfl
theorem r6 (kind:Int)(key body:ByteArray)(w:World):Calls Yq.prog 20 #[.int .i64 kind,.string key,.string body] w fun e w'=>
  e=.returned (.agg #[.int .i64 kind,.string key,.string body,.string ⟨#[]⟩,.string ⟨#[]⟩,.int .i64 0,.int .i64 0])/\Below w.heap.size w w':=by
 go_enter Yq.func20,Tryz.ntmps20
 go_wp2
 exact bodyPost_ret (v:=.agg #[.int .i64 kind,.string key,.string body,.string ⟨#[]⟩,.string ⟨#[]⟩,.int .i64 0,.int .i64 0]) (by simp [results,Tryz.results20,go_sem]) rfl ⟨rfl,(Below.refl _ _).alloc (lR _) _⟩
theorem zQ (c:Int)(m:Nat)(w:World)(h1:-9223372036854775808<=c)(h2:c<=9223372036854775807)(hm:0<m)(hm2:m<=9223372036854775807):
  Calls Yq.prog 21 #[.int .i64 c,.int .i64 m] w fun e w'=>∃k:Nat,k<m/\e=.returned (.int .i64 k)/\w=w':=by
 have hm0:((m:Int)==0)=false:=by simp;omega
 by_cases hc:c<0
 ·have e:-((c+1).tmod (m:Int))=(((-(c+1)) % (m:Int)).toNat:Int):=by
   rw [<-Int.neg_tmod,Int.tmod_eq_emod_of_nonneg (by omega)]
   have:=Int.emod_nonneg (-(c+1)) (b:=(m:Int)) (by omega)
   omega
  have hk:((-(c+1)) % (m:Int)).toNat<m:=by
   have h3:=Int.emod_nonneg (-(c+1)) (b:=(m:Int)) (by omega)
   have h4:=Int.emod_lt_of_pos (-(c+1)) (b:=(m:Int)) (by omega)
   omega
  have HE:Hid (-((c+1).tmod (m:Int))=(((-(c+1)) % (m:Int)).toNat:Int)/\((-(c+1)) % (m:Int)).toNat<m):=⟨e,hk⟩
  clear e hk
  go_enter Yq.func21,Tryz.ntmps21
  go_wp2
  go_ret
  exact ⟨_,HE.out.2,nB HE.out.1,rfl⟩
 ·have e:c % (m:Int)=((c % (m:Int)).toNat:Int):=by
   have:=Int.emod_nonneg c (b:=(m:Int)) (by omega)
   omega
  have hk:(c % (m:Int)).toNat<m:=by
   have h3:=Int.emod_nonneg c (b:=(m:Int)) (by omega)
   have h4:=Int.emod_lt_of_pos c (b:=(m:Int)) (by omega)
   omega
  have HE:Hid (c % (m:Int)=((c % (m:Int)).toNat:Int)/\(c % (m:Int)).toNat<m):=⟨e,hk⟩
  clear e hk
  go_enter Yq.func21,Tryz.ntmps21
  go_wp2
  go_ret
  exact ⟨_,HE.out.2,nB HE.out.1,rfl⟩
end
section
open Go
open Go.Conc Go.ConcX Go.ConcX.Gen Go.RowKit
theorem aj.grown {w W w':World}{row:Option Nat}(h:aj w W)(hg:W.grownBy w' row)(hr:∀g,row=some g->w.heap.size<=g):aj w w':=
 ⟨hg.os.trans h.os,Nat.le_trans h.size hg.size,fun b hb=>(hg.block b (Nat.lt_of_lt_of_le hb h.size) (fun e=>by have:=hr b e.symm;omega)).trans (h.block b hb)⟩
theorem tC (Qok:Qy->Prop)(K:OpD->Prop)(G:World->Prop)(N:Nat)(hAns:im Qok K G N)(v:Value)(ops:List OpD)(w:World)(hG:∀w',aj w w'->G w')(h:br w v ops)(hne:ops≠[])(hn:ops.length<=N)(hN:N<2199023255540)(hko:∀o∈ops,dB Qok o)(hkk:∀o∈ops,K o):
  Calls Yq.prog 18 #[v] w fun e w'=>fc ops w e w'\/Stop Qok e w':=by
 obtain ⟨a,cap,rfl,hx⟩:=h.form
 obtain ⟨b,off,rfl,hS⟩:=hx hne
 exact zP Qok K G N hAns b off cap ops w hG hS h.sized hn hN hko hkk
def CJ (ops:List OpD)(m:Nat)(w:World)(e:Ending)(w':World):Prop:=
 ∃ (g:Nat) (A:Nat->Prop) (zs:List (je×Value)),e=.returned (.slice (some ⟨g,0,none⟩) m m)/\zs.map (·.1)=(bK ops).al/\(∀j,j<m * 5->w'.cell? ⟨g,j,none⟩=(bZ zs)[j]?)/\qx A w' zs/\aj w w'
theorem fc.q {ops:List OpD}{w w':World}{e:Ending}(h:fc ops w e w')(m:Nat)(hm:ops.length=m):CJ ops m w e w':=by
 subst hm
 obtain ⟨A,zs,rfl,hal,hown,hrows,hA,hl⟩:=h
 exact ⟨_,A,zs,rfl,hal,fun j hj=>hown.cellAt j hj,hrows,hl⟩
def CK (ops:List OpD)(m:Nat)(w:World)(e:Ending)(w':World):Prop:=
 ∃ (g:Nat) (A:Nat->Prop) (zs:List (je×Value)),e=.returned (.slice (some ⟨g,0,none⟩) m m)/\zs.map (·.1)=(bK ops).al/\(∀j,j<m * 5->w'.cell? ⟨g,j,none⟩=(bZ zs)[j]?)/\qx A w' zs/\aj w w'/\w.heap.size<=g
theorem fc.g {ops:List OpD}{w w':World}{e:Ending}(h:fc ops w e w')(m:Nat)(hm:ops.length=m):CK ops m w e w':=by
 subst hm
 obtain ⟨A,zs,rfl,hal,hown,hrows,hA,hl⟩:=h
 exact ⟨_,A,zs,rfl,hal,fun j hj=>hown.cellAt j hj,hrows,hl,lR _⟩
theorem qy {t:ByteArray}(h:t≠⟨#[]⟩):t.toList.isEmpty=false:=by
 rw [ByteArray.toList_eq]
 cases e:t.data.toList with
 |nil=>exact absurd (ByteArray.ext (Array.toList_inj.1 (e.trans rfl))) h
 |cons a r=>rfl
theorem dp {a:je}{l:List je}{zs:List (je×Value)}(h:zs.map (·.1)=a::l):∃v zs',zs=(a,v)::zs'/\zs'.map (·.1)=l:=by
 cases zs with
 |nil=>simp at h
 |cons z r=>
  obtain ⟨b,v⟩:=z
  simp only [List.map_cons,List.cons.injEq] at h
  obtain ⟨rfl,h⟩:=h
  exact ⟨v,r,rfl,h⟩
def kC:Qy:=⟨false,⟨#[]⟩,⟨#[]⟩,⟨#[]⟩⟩
theorem nu (n:Nat)(h:n<10):Lib.itoa (n:Int)=[UInt8.ofNat (48+n)]:=by
 rw [tb,Lib.decDigits,dif_pos h]
theorem kT (n pg:Int):fU n pg≠⟨#[]⟩:=by
 intro h
 have:=congrArg (fun b=>b.data.size) h
 simp [fU] at this
theorem tok12:fU 1 2=⟨#[49,46,50]⟩:=by
 rw [fU,show (1:Int)=((1:Nat):Int) from rfl,show (2:Int)=((2:Nat):Int) from rfl,nu 1 (by omega),nu 2 (by omega)]
 rfl
theorem Qu9 (l:List (List UInt8×List Ver))(h:∀x∈l,me kC x.1 x.2=true):∀s,(l.foldl (ci kC) s).1=s.1++l.map fun x=>⟨1,⟨x.1.toArray⟩,(p8 x.2).num⟩:=by
 induction l with
 |nil=>intro s;simp
 |cons a r ih=>
  intro s
  rw [List.foldl_cons,ih (fun x hx=>h x (by simp [hx]))]
  have e:ci kC s a=(s.1++[⟨1,⟨a.1.toArray⟩,(p8 a.2).num⟩],s.2):=by
   have e2:eP kC a.1=none:=rfl
   rw [ci,if_pos (h a (by simp)),e2]
   rfl
  rw [e]
  simp
theorem r7 (l:List (List UInt8×List Ver))(h:∀x∈l,me kC x.1 x.2=true):cT kC l=l.map fun x=>⟨1,⟨x.1.toArray⟩,(p8 x.2).num⟩:=by
 rw [cT,ay,Qu9 l h,List.nil_append]
theorem xJ (b:UInt8)(k:List UInt8)(v:Ver)(hv:v.mark=false):me kC (b::k) [v]=true:=by
 have e:(⟨(b::k).toArray⟩:ByteArray).toList=b::k:=by rw [ByteArray.toList_eq]
 have e0:(⟨#[]⟩:ByteArray).toList=[]:=by rw [ByteArray.toList_eq]
 simp [me,rK,kC,e,e0,p8,hv,Op.bytesLess]
theorem zR (n:Nat)(f:List UInt8->List Ver)(bs:List UInt8)(v:Ver)(h0:f []=[v])(hno:∀c k,f (c::k)=[]):cM (n+1) f bs=[(bs,[v])]:=by
 rw [jx n f bs [] .nil (fun c _ k=>hno c k),h0]
 rfl
theorem zS (n:Nat)(f:List UInt8->List Ver)(bs:List UInt8)(ks:List (UInt8×Ver))(hs:ks.Pairwise fun a b=>a.1<b.1)(h0:f []=[])(h1:∀x∈ks,f [x.1]=[x.2]/\∀c k,f (x.1::c::k)=[])(hno:∀c,(∀v,(c,v) ∉ ks)->∀k,f (c::k)=[]):cM (n+2) f bs=ks.map fun x=>(bs++[x.1],[x.2]):=by
 rw [jx (n+1) f bs (ks.map fun x=>(x.1,none)) (by rw [List.pairwise_map];exact hs) (fun c hc k=>hno c (fun v hv=>hc none (List.mem_map.2 ⟨_,hv,rfl⟩)) k),h0]
 simp only [List.isEmpty_nil,if_true,List.nil_append,List.flatMap_map]
 have:∀l:List (UInt8×Ver),(∀x∈l,f [x.1]=[x.2]/\∀c k,f (x.1::c::k)=[])->(l.flatMap fun x=>cM (n+1) (fun k=>f (x.1::k)) (bs++[x.1]))=l.map fun x=>(bs++[x.1],[x.2]):=by
  intro l
  induction l with
  |nil=>intro _;rfl
  |cons a r ih=>
   intro h
   obtain ⟨h1,h2⟩:=h a (by simp)
   rw [List.flatMap_cons,ih (fun x hx=>h x (by simp [hx])),zR n (fun k=>f (a.1::k)) (bs++[a.1]) a.2 h1 h2]
   rfl
 exact this ks h1
def sB:ByteArray:=⟨#[98]⟩
def sA:ByteArray:=⟨#[97]⟩
def noB:ByteArray:=⟨#[]⟩
def eD:List OpD:=[⟨1,sB,⟨#[120]⟩,noB,noB,0,0⟩,⟨1,sA,⟨#[121]⟩,noB,noB,0,0⟩,⟨6,noB,noB,noB,noB,1,0⟩,⟨4,sB,noB,noB,noB,0,0⟩,⟨8,noB,noB,noB,noB,0,2⟩,⟨8,noB,⟨#[110,111,110,101]⟩,noB,noB,0,-1⟩]
theorem zT (L:Lg)(f:List UInt8->List Ver)(hlen:1<(cT kC (cX f [])).length):eE L f kC 1=if 3<=L.opened.length then (L,[],⟨#[]⟩,8) else (⟨L.opened++[⟨L.begun+1,f,kC,1,10⟩],L.begun+1,ii (fU (L.begun+1) 2) (L.begun+1,2) L.told⟩,(⟨L.begun+1,f,kC,1,10⟩:LsA).page 1,fU (L.begun+1) 2,0):=by
 have e:(gY L f kC 1).tok 1=fU (L.begun+1) 2:=by
  have h1:IntKind.i64.wrap (1 * 1)=1:=by decide
  have h2:IntKind.i64.wrap (1+1)=2:=by decide
  have hq:kC.p.data.toList=[]:=rfl
  simp only [LsA.tok,xl,LsA.lst,gY,h1,h2,hq]
  rw [if_pos (by omega)]
 unfold eE
 rw [if_neg (by omega),e,if_neg (kT _ _)]
 rfl
theorem zU (x:LsA)(hq:x.q=kC)(hs:x.size=1)(pg:Int)(h:0<=pg/\pg<100):x.tok pg=if pg<(cT kC (cX x.f [])).length then fU x.num (pg+1) else ⟨#[]⟩:=by
 have h1:IntKind.i64.wrap (pg * 1)=pg:=by rw [Int.mul_one];exact wrap_small _ (by omega) (by omega)
 have h2:IntKind.i64.wrap (pg+1)=pg+1:=wrap_small _ (by omega) (by omega)
 have hq':kC.p.data.toList=[]:=rfl
 simp only [LsA.tok,xl,LsA.lst,hq,hs,h1,h2,hq']
end
end Go.Proofs.YtnapepbdohidgaaGreatDoorQ
