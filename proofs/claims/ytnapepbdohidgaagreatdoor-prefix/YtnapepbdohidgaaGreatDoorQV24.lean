/- A part. -/
import Derived.Test.YtnapepbdohidgaaGreatDoorQV21
set_option maxHeartbeats 4000000
set_option maxRecDepth 100000
open Go renaming World->Wz,Value->Wq
namespace Go.Proofs.Qw
section
open Go
open Go.Conc Go.ConcX Go.ConcX.Gen Go.RowKit
theorem oR:∀ (l:List ItD)(i:Nat)(hi:i<l.length),(ax l)[i * 3]?=some (.int .i64 l[i].kind)/\(ax l)[i * 3+1]?=some (.string l[i].text)/\(ax l)[i * 3+2]?=some (.int .i64 l[i].ver)
 | [],i,hi=>by simp at hi
 |z::l,0,hi=>by simp [ax]
 |z::l,i+1,hi=>by
  have ih:=oR l i (by simpa using hi);have e:ax (z::l)=[.int .i64 z.kind,.string z.text,.int .i64 z.ver]++ax l:=by simp [ax]
  have hh:∀j,(ax (z::l))[(i+1) * 3+j]?=(ax l)[i * 3+j]?:=fun j=>by
   rw [e,aR (by simp;omega)];congr 1;simp;omega
  simp only [List.getElem_cons_succ];exact ⟨(hh 0).trans ih.1,(hh 1).trans ih.2.1,(hh 2).trans ih.2.2⟩
structure uz (w:Wz)(v:Wq)(its:List ItD):Prop where
 form:∃a cap,v=.slice a its.length cap/\(its≠[]->∃g,a=some ⟨g,0,none⟩/\∀j,j<its.length * 3->w.cell? ⟨g,j,none⟩=(ax its)[j]?)
theorem bz.its {A:Nat->Prop}{w:Wz}{v:Wq}{its:List ItD}(h:bz A w v its.length (ax its)):uz w v its:=by
 obtain ⟨a,cap,rfl,-,hx⟩:=h;refine ⟨a,cap,rfl,fun hne=>?_⟩;obtain ⟨g,rfl,-,-,hc⟩:=hx (by
  cases its with
  |nil=>exact absurd rfl hne
  |cons i r=>simp [ax])
 exact ⟨g,rfl,fun j hj=>hc j (by rw [nt];exact hj)⟩
theorem uz.left {w w':Wz}{v:Wq}{its:List ItD}(h:uz w v its)(hl:ak w w'):uz w' v its:=by
 obtain ⟨a,cap,rfl,hx⟩:=h.form;refine ⟨a,cap,rfl,fun hne=>?_⟩;obtain ⟨g,rfl,hc⟩:=hx hne;refine ⟨g,rfl,fun j hj=>?_⟩;have:=hc j hj;rw [<-this];have hlt:j<(ax its).length:=by rw [nt];exact hj
 rw [eL hlt] at this;exact (hl.cell this).trans this.symm
@[simp] theorem F3:Yq.prog.stoodInHeld 41=false:=by kernel_rfl
theorem CN (v1 v2:Wq)(its:List ItD)(w:Wz)(h1:uz w v1 its)(h2:uz w v2 its)(hl:its.length<=100000):
  Calls Yq.prog 22 #[v1,v2] w fun e w'=>e=.returned (.bool true)/\Below w.heap.size w w':=by
 obtain ⟨a,c,rfl,hx⟩:=h1.form;obtain ⟨b,d,rfl,hy⟩:=h2.form;have HX:Hid (its≠[]->∃g,a=some ⟨g,0,none⟩/\∀j,j<its.length * 3->w.cell? ⟨g,j,none⟩=(ax its)[j]?):=hx;have HY:Hid (its≠[]->∃g,b=some ⟨g,0,none⟩/\∀j,j<its.length * 3->w.cell? ⟨g,j,none⟩=(ax its)[j]?):=hy;clear hx hy h1 h2;obtain ⟨n,hn⟩:∃n,its.length=n:=⟨_,rfl⟩;have HN:Hid (its.length=n):=hn;rw [hn] at hl ⊢;clear hn;go_enter (Yq.nq Tryz.func22),Tryz.ntmps22;go_wp2_with fail
 go_loopw [5] (fun s5 wr=>∃i:Nat,i<=n/\s5=.int .i64 i/\Below w.heap.size w wr) (fun s5 _=>n-(intOf s5).toNat)
 case atStart=>exact ⟨0,Nat.zero_le _,rfl,bR _ _⟩
 case round=>
  obtain ⟨i,hin,rfl,hb⟩:=hrel;by_cases hlt:i<n
  .have hlo:i<its.length:=by rw [HN.out];exact hlt
   have hne:its≠[]:=by intro e;rw [e] at hlo;simp at hlo
   obtain ⟨g,rfl,hc⟩:=HX.out hne;obtain ⟨g',rfl,hc'⟩:=HY.out hne;obtain ⟨e0,e1,e2⟩:=oR its i hlo;have c0:=aj hb ((hc (i * 3) (by omega)).trans e0);have c1:=aj hb ((hc (i * 3+1) (by omega)).trans e1);have c2:=aj hb ((hc (i * 3+2) (by omega)).trans e2);have d0:=aj hb ((hc' (i * 3) (by omega)).trans e0);have d1:=aj hb ((hc' (i * 3+1) (by omega)).trans e1);have d2:=aj hb ((hc' (i * 3+2) (by omega)).trans e2);generalize its[i]=it at *;obtain ⟨kind,text,ver⟩:=it;simp only at c0 c1 c2 d0 d1 d2;have HB:Hid (Below w.heap.size w wr):=hb;clear hb hc hc' e0 e1 e2 HX HY;go_wp2
   go_region
   all_goals
    go_wp2;exact ⟨⟨i+1,by omega,by go_num,HB.out.drew⟩,by simp [intOf];omega⟩
  .have hie:i=n:=by omega
   subst hie;have HB:Hid (Below w.heap.size w wr):=hb;clear hb;go_wp2;go_ret;exact ⟨rfl,HB.out⟩
end
section
open Go
open Go.RowKit
theorem kL (l:Lst)(pn:Int):∀ (its:List ItD)(k:Nat),(dG l pn k its).length<=its.length
 | [],_=>by simp [dG]
 |i::r,k=>by
  have:=kL l pn r (k+1);rw [dG];split<;>simp only [lP,lC,lN]<;>omega
theorem CO {Qok:Qy->Prop}{L:Lg}{n:Nat}(h:nU Qok L n)(tok:ByteArray):(eU L tok).2.1.length<=1000:=by
 unfold eU;split
 .simp
 .split
  .simp
  .split
   .simp
   .rename_i x hx;have hm:=h.ok x (List.mem_of_getElem? hx);have h2:=mm x.q (cF x.f x.q.p.data.toList) (fU _ _ _);have h3:=hm.2.1;exact lT (kL _ _ _ _) (by omega)
end
section
open Go
open Go.Conc Go.ConcX Go.ConcX.Gen Go.RowKit
theorem AH {st:St}(hT:dW st)(L:Lg)(q:Qy)(n:Int):(fG L st.f q n).2.1.length<=1000:=by
 have h1:((ji L st.f q n).page 1).length<=1000:=by
  have h2:=mm q (cF st.f q.p.data.toList) (fU _ _ _);have h3:=hT.sum q.p.data.toList;exact lT (kL _ _ _ _) (by show (eR q (cF st.f q.p.data.toList)).length<=1000;omega)
 unfold fG
 repeat' split
 all_goals first|exact Nat.zero_le _|exact h1
theorem AI {Qok:Qy->Prop}{st:St}{L:Lg}{s:Nat}(hT:dW st)(hL:nU Qok L s)(toks:List ByteArray)(o:OpD):(stepA st L toks o).2.2.items.length<=1000:=by
 have hl:=hL.len;unfold stepA;split
 .exact AH hT _ _ _
 .split
  .exact AH hT _ _ _
  .split
   .exact CO hL _
   .split
    .exact Nat.zero_le _
    .split
     .simp only [lM];omega
     .split<;>exact Nat.zero_le _
theorem EO {Qok:Qy->Prop}(ops:List OpD)(hk:∀o∈ops,nT Qok o/\o.key.size<=maxLen):∀a∈(fE ops).al,a.items.length<=1000:=by
 have:∀n,n<=ops.length->∀a∈(fE (ops.take n)).al,a.items.length<=1000:=fun n=>by
  induction n with
  |zero=>intro _ a ha;simp [fE,gC,dk0] at ha
  |succ n ih=>
   intro hn a ha;rw [tS (by omega),ss] at ha;simp only [gN,List.mem_append,List.mem_singleton] at ha;rcases ha with ha|rfl
   .exact ih (by omega) a ha
   .have hE:=vN (Qok:=Qok) (ops.take n) fun o ho=>hk o (List.mem_of_mem_take ho)
    unfold lW qj;split
    .generalize dx _ _ _ _=b;unfold cG;cases iv b<;>exact Nat.zero_le _
    .exact AI hE.t hE.l _ _
 have:=this ops.length (lR _)
 rwa [List.take_length] at this
theorem uA (a b:List OpD):∃r,(fE (a++b)).al=(fE a).al++r:=by
 have:∀ (b:List OpD) (x:List OpD×Dk),∃r,(gC b x).2.al=x.2.al++r:=fun b=>by
  induction b with
  |nil=>intro x;exact ⟨[],by simp [gC]⟩
  |cons o r ih=>
   intro x;obtain ⟨l,hl⟩:=ih (x.1++[o],gN x.1 x.2 o);refine ⟨[(lW x.1 x.2 o).2.2]++l,?_⟩;show (gC r (x.1++[o],gN x.1 x.2 o)).2.al=_;rw [hl];simp [gN]
 rw [fE,lw];exact this b _
theorem AJ (ops:List OpD)(k i:Nat)(hi:i<k)(hk:k<=ops.length):(fE ops).al[i]?=(fE (ops.take k)).al[i]?:=by
 obtain ⟨r,hr⟩:=uA (ops.take k) (ops.drop k);rw [List.take_append_drop] at hr;rw [hr,List.getElem?_append_left (by rw [mt,tL];omega)]
def Dc (G:Wz->Prop)(N:Nat):Prop:=lu sw FL G N
theorem Dc.r {G:Wz->Prop}{N:Nat}(h:Dc G N):F2 G N:=by
 intro A B k0 w st L h1 h2 h3 o _ h4 h5 h6 s h7 h8 h9 h10 g0 cp toks h11 h12 h13 ks bs h14;exact h h1 h2 h3 o trivial h4 h5 h6 h7 h8 h9 h10 g0 cp toks h11 h12 h13 ks bs h14
theorem Dd (o:OpD):nT sw o:=⟨fun _=>trivial,fun _=>trivial⟩
def xW (w:Wz)(g i:Nat)(x:iu):Prop:=∃v,w.cell? ⟨g,i * 5,none⟩=some (.int .i64 x.code)/\w.cell? ⟨g,i * 5+1,none⟩=some (.int .i64 x.ver)/\w.cell? ⟨g,i * 5+2,none⟩=some (.string x.body)/\w.cell? ⟨g,i * 5+3,none⟩=some v/\w.cell? ⟨g,i * 5+4,none⟩=some (.string x.tok)/\uz w v x.items
theorem xW.left {w w':Wz}{g i:Nat}{x:iu}(h:xW w g i x)(hl:ak w w'):xW w' g i x:=by
 obtain ⟨v,h0,h1,h2,h3,h4,hi⟩:=h;exact ⟨v,hl.cell h0,hl.cell h1,hl.cell h2,hl.cell h3,hl.cell h4,hi.left hl⟩
def Gc (ops:List OpD)(m:Nat)(w:Wz)(e:Ending)(w':Wz):Prop:=
 ∃g,e=.returned (.slice (some ⟨g,0,none⟩) m m)/\ak w w'/\∀ (i:Nat) (x:iu),(fE ops).al[i]?=some x->xW w' g i x
theorem CP {G:Wz->Prop}{N:Nat}(hAns:Dc G N)(v:Wq)(ops:List OpD)(w:Wz)(hG:∀w',ak w w'->G w')(h:gy w v ops)(hne:ops≠[])(hn:ops.length<=N)(hN:N<2199023255300):
  Calls Yq.prog 18 #[v] w fun e w'=>Gc ops ops.length w e w'\/Stop sw e w':=by
 obtain ⟨a,cap,rfl,hx⟩:=h.form;obtain ⟨b,off,rfl,hS⟩:=hx hne;refine (su sw FL G N hAns b off cap ops w hG hS h.sized hn hN (fun o _=>Dd o) (fun _ _=>trivial)).mono ?_;rintro e w' (⟨A,zs,rfl,hal,hown,hrows,-,hl⟩|hst)
 .refine .inl ⟨_,rfl,hl,fun i x hx=>?_⟩;have hi:=(List.getElem?_eq_some_iff.1 hx).1;rw [mt] at hi;have hz:i<zs.length:=by have:=congrArg List.length hal;rw [lM,mt] at this;omega
  have e1:zs[i].1=x:=by
   rw [<-hal,List.getElem?_map,eL hz] at hx;exact oJ hx
  obtain ⟨c0,c1,c2,c3,c4⟩:=jR zs i hz;have hr:=(hrows zs[i] (List.getElem_mem hz)).its;rw [e1] at c0 c1 c2 c4 hr;exact ⟨zs[i].2,(hown.cellAt _ (by omega)).trans c0,(hown.cellAt _ (by omega)).trans c1,(hown.cellAt _ (by omega)).trans c2,(hown.cellAt _ (by omega)).trans c3,(hown.cellAt _ (by omega)).trans c4,hr⟩
 .exact .inr hst
end
