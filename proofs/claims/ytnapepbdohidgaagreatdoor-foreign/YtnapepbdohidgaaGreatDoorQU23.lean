/- A part. -/
import Derived.Test.YtnapepbdohidgaaGreatDoorQU20
set_option maxHeartbeats 4000000
set_option maxRecDepth 100000
open Go renaming World->Wz,Value->Wq
namespace Go.Proofs.Qw
section
open Go
open Go.Conc Go.ConcX Go.ConcX.Gen Go.RowKit
theorem pf:∀ (l:List ItD)(i:Nat)(hi:i<l.length),(ay l)[i * 3]?=some (.int .i64 l[i].kind)/\(ay l)[i * 3+1]?=some (.string l[i].text)/\(ay l)[i * 3+2]?=some (.int .i64 l[i].ver)
 | [],i,hi=>by simp at hi
 |z::l,0,hi=>by simp [ay]
 |z::l,i+1,hi=>by
  have ih:=pf l i (by simpa using hi);have e:ay (z::l)=[.int .i64 z.kind,.string z.text,.int .i64 z.ver]++ay l:=by simp [ay]
  have hh:∀j,(ay (z::l))[(i+1) * 3+j]?=(ay l)[i * 3+j]?:=fun j=>by
   rw [e,aR (by simp;omega)];congr 1;simp;omega
  simp only [List.getElem_cons_succ];exact ⟨(hh 0).trans ih.1,(hh 1).trans ih.2.1,(hh 2).trans ih.2.2⟩
structure n7 (w:Wz)(v:Wq)(its:List ItD):Prop where
 form:∃a cap,v=.slice a its.length cap/\(its≠[]->∃g,a=some ⟨g,0,none⟩/\∀j,j<its.length * 3->w.cell? ⟨g,j,none⟩=(ay its)[j]?)
theorem bD.its {A:Nat->Prop}{w:Wz}{v:Wq}{its:List ItD}(h:bD A w v its.length (ay its)):n7 w v its:=by
 obtain ⟨a,cap,rfl,-,hx⟩:=h;refine ⟨a,cap,rfl,fun hne=>?_⟩;obtain ⟨g,rfl,-,-,hc⟩:=hx (by
  cases its with
  |nil=>exact absurd rfl hne
  |cons i r=>simp [ay])
 exact ⟨g,rfl,fun j hj=>hc j (by rw [nK];exact hj)⟩
theorem n7.left {w w':Wz}{v:Wq}{its:List ItD}(h:n7 w v its)(hl:ak w w'):n7 w' v its:=by
 obtain ⟨a,cap,rfl,hx⟩:=h.form;refine ⟨a,cap,rfl,fun hne=>?_⟩;obtain ⟨g,rfl,hc⟩:=hx hne;refine ⟨g,rfl,fun j hj=>?_⟩;have:=hc j hj;rw [<-this];have hlt:j<(ay its).length:=by rw [nK];exact hj
 rw [eL hlt] at this;exact (hl.cell this).trans this.symm
@[simp] theorem GL:Yq.prog.stoodInHeld 41=false:=by kernel_rfl
theorem Do (v1 v2:Wq)(its:List ItD)(w:Wz)(h1:n7 w v1 its)(h2:n7 w v2 its)(hl:its.length<=100000):
  Calls Yq.prog 22 #[v1,v2] w fun e w'=>e=.returned (.bool true)/\Below w.heap.size w w':=by
 obtain ⟨a,c,rfl,hx⟩:=h1.form;obtain ⟨b,d,rfl,hy⟩:=h2.form;have HX:Hid (its≠[]->∃g,a=some ⟨g,0,none⟩/\∀j,j<its.length * 3->w.cell? ⟨g,j,none⟩=(ay its)[j]?):=hx;have HY:Hid (its≠[]->∃g,b=some ⟨g,0,none⟩/\∀j,j<its.length * 3->w.cell? ⟨g,j,none⟩=(ay its)[j]?):=hy;clear hx hy h1 h2;obtain ⟨n,hn⟩:∃n,its.length=n:=⟨_,rfl⟩;have HN:Hid (its.length=n):=hn;rw [hn] at hl ⊢;clear hn;go_enter (Yq.nq Tryz.func22),Tryz.ntmps22;go_wp2_with fail
 go_loopw [5] (fun s5 wr=>∃i:Nat,i<=n/\s5=.int .i64 i/\Below w.heap.size w wr) (fun s5 _=>n-(intOf s5).toNat)
 case atStart=>exact ⟨0,Nat.zero_le _,rfl,bR _ _⟩
 case round=>
  obtain ⟨i,hin,rfl,hb⟩:=hrel;by_cases hlt:i<n
  .have hlo:i<its.length:=by rw [HN.out];exact hlt
   have hne:its≠[]:=by intro e;rw [e] at hlo;simp at hlo
   obtain ⟨g,rfl,hc⟩:=HX.out hne;obtain ⟨g',rfl,hc'⟩:=HY.out hne;obtain ⟨e0,e1,e2⟩:=pf its i hlo;have c0:=aj hb ((hc (i * 3) (by omega)).trans e0);have c1:=aj hb ((hc (i * 3+1) (by omega)).trans e1);have c2:=aj hb ((hc (i * 3+2) (by omega)).trans e2);have d0:=aj hb ((hc' (i * 3) (by omega)).trans e0);have d1:=aj hb ((hc' (i * 3+1) (by omega)).trans e1);have d2:=aj hb ((hc' (i * 3+2) (by omega)).trans e2);generalize its[i]=it at *;obtain ⟨kind,text,ver⟩:=it;simp only at c0 c1 c2 d0 d1 d2;have HB:Hid (Below w.heap.size w wr):=hb;clear hb hc hc' e0 e1 e2 HX HY;go_wp2
   go_region
   all_goals
    go_wp2;exact ⟨⟨i+1,by omega,by go_num,HB.out.drew⟩,by simp [intOf];omega⟩
  .have hie:i=n:=by omega
   subst hie;have HB:Hid (Below w.heap.size w wr):=hb;clear hb;go_wp2;go_ret;exact ⟨rfl,HB.out⟩
end
section
open Go
open Go.RowKit
def ec:OpD:=⟨10,⟨#[]⟩,⟨#[]⟩,⟨#[]⟩,⟨#[]⟩,0,0⟩
def qC (st:St)(L:Lg):iE:=⟨0,st.count,⟨#[]⟩,L.opened.map iD,⟨#[]⟩⟩
end
section
open Go
open Go.Conc Go.ConcX Go.ConcX.Gen Go.RowKit
def baL (l:List UInt8):ByteArray:=⟨l.toArray⟩
theorem iW (l:List UInt8):(baL l).size=l.length:=by simp [baL,ByteArray.size]
theorem Gj (s:ByteArray):baL s.data.toList=s:=ByteArray.ext (by simp [baL])
theorem wG (l:List UInt8)(n:Nat):tkB (baL l) n=baL (l.take n):=by
 refine ByteArray.ext (Array.toList_inj.1 ?_);simp only [tkB,ByteArray.data_extract,iW];simp [baL]
theorem wH (l:List UInt8)(n:Nat):rsB (baL l) n=baL (l.drop n):=by
 refine ByteArray.ext (Array.toList_inj.1 ?_);simp only [rsB,ByteArray.data_extract,iW];by_cases h:n<=l.length
 .rw [Nat.min_eq_left h];simp only [baL,List.extract_toArray,List.extract_eq_take_drop];rw [tO (by simp)]
 .rw [Nat.min_eq_right (by omega)];simp [baL];omega
def iH (n:Nat):List UInt8:=(List.range 8).map fun i=>UInt8.ofNat (n / 2 ^ (8 * (7-i)) % 256)
theorem mK (n:Nat):(iH n).length=8:=by simp [iH]
theorem Bj (n:Nat)(h:n<18446744073709551616):qG (iH n)=n:=by
 have e:iH n=[UInt8.ofNat (n / 2 ^ 56 % 256),UInt8.ofNat (n / 2 ^ 48 % 256),UInt8.ofNat (n / 2 ^ 40 % 256),UInt8.ofNat (n / 2 ^ 32 % 256),UInt8.ofNat (n / 2 ^ 24 % 256),UInt8.ofNat (n / 2 ^ 16 % 256),UInt8.ofNat (n / 2 ^ 8 % 256),UInt8.ofNat (n / 2 ^ 0 % 256)]:=rfl;rw [e];have h7:n / 2 ^ 56 % 256=n / 2 ^ 56:=by omega
 have h6:n / 2 ^ 48=n / 2 ^ 56 * 256+n / 2 ^ 48 % 256:=by omega
 have h5:n / 2 ^ 40=n / 2 ^ 48 * 256+n / 2 ^ 40 % 256:=by omega
 have h4:n / 2 ^ 32=n / 2 ^ 40 * 256+n / 2 ^ 32 % 256:=by omega
 have h3:n / 2 ^ 24=n / 2 ^ 32 * 256+n / 2 ^ 24 % 256:=by omega
 have h2:n / 2 ^ 16=n / 2 ^ 24 * 256+n / 2 ^ 16 % 256:=by omega
 have h1:n / 2 ^ 8=n / 2 ^ 16 * 256+n / 2 ^ 8 % 256:=by omega
 have h0:n=n / 2 ^ 8 * 256+n / 2 ^ 0 % 256:=by omega
 simp only [qG,List.foldl_cons,List.foldl_nil,UInt8.toNat_ofNat',Nat.mod_mod,Nat.zero_mul,zA];rw [h7,<-h6,<-h5,<-h4,<-h3,<-h2,<-h1,<-h0]
def fQ (s:ByteArray):List UInt8:=UInt8.ofNat (s.size % 256)::s.data.toList
theorem Bk (s:ByteArray)(r:List UInt8)(h:s.size<256):txB (baL (fQ s++r))=s/\txR (baL (fQ s++r))=baL r:=by
 have e:txL (baL (fQ s++r))=s.size:=by
  rw [txL,wG];simp only [baL,fQ,List.cons_append,List.take_succ_cons,List.take_zero,qG,List.foldl_cons,List.foldl_nil,UInt8.toNat_ofNat'];omega
 have e2:rsB (baL (fQ s++r)) 1=baL (s.data.toList++r):=by rw [wH];rfl
 have hl:s.size=s.data.toList.length:=by simp
 refine ⟨?_,?_⟩
 .rw [txB,e,e2,wG,hl,List.take_left,Gj]
 .rw [txR,e,e2,wH,hl,List.drop_left]
theorem wI (n:Nat)(r:List UInt8)(h:n<18446744073709551616):nm8 (baL (iH n++r))=n/\rsB (baL (iH n++r)) 8=baL r:=by
 refine ⟨?_,?_⟩
 .rw [nm8,wG,List.take_append_of_le_length (by rw [mK];omega),tO (by rw [mK];omega)];exact Bj n h
 .rw [wH,List.drop_append_of_le_length (by rw [mK];omega),List.drop_of_length_le (by rw [mK];omega)];rfl
theorem wJ (b:UInt8)(r:List UInt8):txL (baL (b::r))=b.toNat/\rsB (baL (b::r)) 1=baL r:=by
 refine ⟨?_,by rw [wH];rfl⟩;rw [txL,wG];simp [baL,qG]
def DN (e:ByteArray×Ver):List UInt8:=if e.2.mark then 2::(iH e.2.num.toNat++fQ e.1) else 1::(iH e.2.num.toNat++(fQ e.1++fQ e.2.body))
structure GM (e:ByteArray×Ver):Prop where
 key:ba e.1=true
 body:e.2.body.size<=100
 mark:e.2.mark=true->e.2.body=⟨#[]⟩
 num:1<=e.2.num/\e.2.num<=9223372036854775807
def Gx (st:St)(e:ByteArray×Ver):St:=d9 (lastSt st (e.2.num-1)) e.1 e.2.body e.2.mark
theorem Dp {st:St}{tm:Int}{e:ByteArray×Ver}(h:GM e)(hl:st.last<e.2.num)(hc:st.count<200)(r:List UInt8):cu st tm (baL (DN e++r))=some (Gx st e,tm,baL r):=by
 obtain ⟨k,v⟩:=e;obtain ⟨h1,h2,h3,h4⟩:=h;simp only at h1 h2 h3 h4 hl;have hks:k.size<=40:=(of_decide_eq_true h1).2;have hn:v.num.toNat<18446744073709551616:=by omega
 have hp:ll st.last v.num.toNat=some (v.num-1):=by
  rw [ll,if_neg (by omega)];congr 1;omega
 have hf:iY (lastSt st (v.num-1))=false:=decide_eq_false (by simp only [lastSt];omega);cases hm:v.mark with
 |true=>
  have e1:DN (k,v)++r=2::(iH v.num.toNat++(fQ k++r)):=by simp [DN,hm]
  obtain ⟨a1,a2⟩:=wJ 2 (iH v.num.toNat++(fQ k++r));obtain ⟨b1,b2⟩:=wI v.num.toNat (fQ k++r) hn;obtain ⟨c1,c2⟩:=Bk k r (by omega);have a1':txL (baL (2::(iH v.num.toNat++(fQ k++r))))=2:=a1;have hd:dD (lastSt st (v.num-1)) k=(d9 (lastSt st (v.num-1)) k ⟨#[]⟩ true,(lastSt st (v.num-1)).last+1,0):=by simp [dD,h1,hf]
  rw [e1,cu,if_neg (by omega),if_pos a1',a2,b1,hp,b2,c1,c2];simp only [hd,if_true,Gx,hm,h3 hm]
 |false=>
  have e1:DN (k,v)++r=1::(iH v.num.toNat++(fQ k++(fQ v.body++r))):=by simp [DN,hm]
  obtain ⟨a1,a2⟩:=wJ 1 (iH v.num.toNat++(fQ k++(fQ v.body++r)));obtain ⟨b1,b2⟩:=wI v.num.toNat (fQ k++(fQ v.body++r)) hn;obtain ⟨c1,c2⟩:=Bk k (fQ v.body++r) (by omega);obtain ⟨d1,d2⟩:=Bk v.body r (by omega);have a1':txL (baL (1::(iH v.num.toNat++(fQ k++(fQ v.body++r)))))=1:=a1;have hd:jd (lastSt st (v.num-1)) k v.body=(d9 (lastSt st (v.num-1)) k v.body false,(lastSt st (v.num-1)).last+1,0):=by
   simp [jd,h1,hf];omega
  rw [e1,cu,if_pos a1',a2,b1,hp,b2,c1,c2,d1,d2];simp only [hd,if_true,Gx,hm]
theorem Bl (st:St)(t0:Int)(last tm:Nat)(n:Nat)(h1:st.last<=last)(h2:last<=9223372036854775807)(h3:tm<18446744073709551616):gt (n+3) st t0 (baL (3::(iH (last+1)++(4::iH tm))))=some (⟨st.f,st.count,last⟩,(tm:Int)):=by
 obtain ⟨a1,a2⟩:=wJ 3 (iH (last+1)++(4::iH tm));obtain ⟨b1,b2⟩:=wI (last+1) (4::iH tm) (by omega);obtain ⟨c1,c2⟩:=wJ 4 (iH tm);obtain ⟨d1,d2⟩:=wI tm [] h3;rw [List.append_nil] at d1 d2;have hp:ll st.last (last+1)=some (last:Int):=by
  rw [ll,if_neg (by omega)];congr 1;omega
 have a1':txL (baL (3::(iH (last+1)++(4::iH tm))))=3:=a1;have c1':txL (baL (4::iH tm))=4:=c1;have p1:cu st t0 (baL (3::(iH (last+1)++(4::iH tm))))=some (lastSt st last,t0,baL (4::iH tm)):=by
  rw [cu,if_neg (by omega),if_neg (by omega),if_pos a1',a2,b1,hp,b2]
 have p2:cu (lastSt st last) t0 (baL (4::iH tm))=some (lastSt st last,(tm:Int),baL []):=by
  rw [cu,if_neg (by omega),if_neg (by omega),if_neg (by omega),if_pos c1',c2,d1,d2]
 rw [show n+3=(n+2)+1 from rfl,gt,if_neg (by rw [iW];simp),p1];simp only;rw [show n+2=(n+1)+1 from rfl,gt,if_neg (by rw [iW];simp),p2];simp only;rw [gt,if_pos (by rw [iW];rfl)];rfl
def svB:ByteArray:=⟨#[98]⟩
def svX:ByteArray:=⟨#[120]⟩
def yK:St:=d9 st0 svB svX false
theorem Fm:db yK.f []=[([98],[⟨1,svX,false⟩])]:=by
 have hf:∀k,yK.f k=if k=[98] then [⟨1,svX,false⟩] else []:=fun k=>rfl
 have h2:cD 40 (fun k=>yK.f (98::k)) [98]=[([98],[⟨1,svX,false⟩])]:=by
  rw [cD,List.flatMap_eq_nil_iff.2 fun b _=>iv _ _ _ fun k=>by simp [hf]];simp [hf]
 have h1:∀b:UInt8,cD 40 (fun k=>yK.f (b::k)) ([]++[b])=if b=98 then [([98],[⟨1,svX,false⟩])] else []:=fun b=>by
  by_cases hb:b=98
  .subst hb;exact h2
  .rw [if_neg hb];exact iv _ _ _ fun k=>by simp [hf,hb]
 show cD 41 yK.f []=_;rw [cD,funext h1];kernel_rfl
theorem Fo:iG yK=[(svB,⟨1,svX,false⟩)]:=by
 rw [iG,Fm];exact List.perm_singleton.1 (lj _)
theorem Fq:dK yK 0=baL (DN (svB,⟨1,svX,false⟩)++3::(iH (1+1)++4::iH 0)):=by
 have h:∀E,E=[(svB,(⟨1,svX,false⟩:Ver))]->bytesOf (fO E++([Value.int .u8 3]++num8 (0+1+1) 8++([Value.int .u8 4]++num8 0 8)))=baL (DN (svB,⟨1,svX,false⟩)++3::(iH (1+1)++4::iH 0)):=fun E h=>by
  subst h;kernel_rfl
 exact h _ Fo
theorem Ft:fj (dK yK 0)=some (yK,0):=by
 have e5:(baL (DN (svB,⟨1,svX,false⟩)++3::(iH (1+1)++4::iH 0))).size=31:=by rw [iW];kernel_rfl
 have e3:gt ((dK yK 0).size+1) st0 0 (dK yK 0)=some (yK,0):=by
  rw [Fq,e5];have hp:=Dp (st:=st0) (tm:=0) (e:=(svB,⟨1,svX,false⟩)) ⟨by decide,by decide,(fun h=>by cases h),by decide⟩ (by decide) (by decide) (3::(iH (1+1)++4::iH 0));rw [gt,if_neg (by rw [e5];decide),hp];exact Bl (Gx st0 (svB,⟨1,svX,false⟩)) 0 1 0 28 (by decide) (by decide) (by decide)
 have h:∀ (b:ByteArray) (x:St×Int),gt (b.size+1) st0 0 b=some x->dK x.1 x.2=b->fj b=some x:=fun b x h1 h2=>by
  rw [fj,h1];simp [h2]
 exact h _ _ e3 rfl
def Gk (G:Wz->Prop)(N:Nat):Prop:=sY vk Gv G N
theorem DO (o:OpD):sX vk o:=⟨fun _=>trivial,fun _=>trivial⟩
def yL (w:Wz)(g i:Nat)(x:iE):Prop:=∃v,w.cell? ⟨g,i * 5,none⟩=some (.int .i64 x.code)/\w.cell? ⟨g,i * 5+1,none⟩=some (.int .i64 x.ver)/\w.cell? ⟨g,i * 5+2,none⟩=some (.string x.body)/\w.cell? ⟨g,i * 5+3,none⟩=some v/\w.cell? ⟨g,i * 5+4,none⟩=some (.string x.tok)/\n7 w v x.items
theorem yL.left {w w':Wz}{g i:Nat}{x:iE}(h:yL w g i x)(hl:ak w w'):yL w' g i x:=by
 obtain ⟨v,h0,h1,h2,h3,h4,hi⟩:=h;exact ⟨v,hl.cell h0,hl.cell h1,hl.cell h2,hl.cell h3,hl.cell h4,hi.left hl⟩
def GU (ops:List OpD)(m:Nat)(w:Wz)(e:Ending)(w':Wz):Prop:=
 ∃g,e=.returned (.slice (some ⟨g,0,none⟩) m m)/\ak w w'/\∀ (i:Nat) (x:iE),(cq ops).al[i]?=some x->yL w' g i x
theorem j6 {G:Wz->Prop}{N:Nat}(hAns:Gk G N)(v:Wq)(ops:List OpD)(w:Wz)(hG:∀w',ak w w'->G w')(h:eH w v ops)(hne:ops≠[])(hn:ops.length<=N)(hN:N<2199023255300):
  Calls Yq.prog 18 #[v] w fun e w'=>GU ops ops.length w e w'\/Stop vk e w':=by
 obtain ⟨a,cap,rfl,hx⟩:=h.form;obtain ⟨b,off,rfl,hS⟩:=hx hne;refine (Bi vk Gv G N hAns b off cap ops w hG hS h.sized hn hN (fun o _=>DO o) (fun _ _=>trivial)).mono ?_;rintro e w' (⟨A,zs,rfl,hal,hown,hrows,-,hl⟩|hst)
 .refine .inl ⟨_,rfl,hl,fun i x hx=>?_⟩;have hi:=(sL hx).1;rw [iV] at hi;have hz:i<zs.length:=by have:=congrArg List.length hal;rw [lM,iV] at this;omega
  have e1:zs[i].1=x:=by
   rw [<-hal,List.getElem?_map,eL hz] at hx;exact oJ hx
  obtain ⟨c0,c1,c2,c3,c4⟩:=j3 zs i hz;have hr:=(hrows zs[i] (List.getElem_mem hz)).its;rw [e1] at c0 c1 c2 c4 hr;exact ⟨zs[i].2,(hown.cellAt _ (by omega)).trans c0,(hown.cellAt _ (by omega)).trans c1,(hown.cellAt _ (by omega)).trans c2,(hown.cellAt _ (by omega)).trans c3,(hown.cellAt _ (by omega)).trans c4,hr⟩
 .exact .inr hst
def cX:OpD:=⟨11,⟨#[]⟩,⟨#[]⟩,⟨#[]⟩,⟨#[]⟩,0,0⟩
def eI (b:ByteArray):OpD:=⟨12,⟨#[]⟩,b,⟨#[]⟩,⟨#[]⟩,0,-1⟩
theorem mL (a:List OpD)(d:Dk):gY a d cX=(d.st,d.L,⟨0,0,dK d.st d.L.tm,[],⟨#[]⟩⟩):=by
 simp [gY,lm,stepA,cX]
theorem wK (a:List OpD)(d:Dk)(b:ByteArray):gY a d (eI b)=cE d.st d.L b:=by
 have e:cW (a.map (·.kind)) d.bods (-1) b=b:=by rw [cW,if_neg (by omega)]
 simp [gY,lm,eI,e]
theorem wL (s:List OpD)(a:OpD):(cq (s++[a])).al=(cq s).al++[(gY s (cq s) a).2.2]:=by rw [eb];rfl
theorem qD (s:List OpD)(a b:OpD):(cq (s++[a,b])).al=(cq s).al++[(gY s (cq s) a).2.2,(gY (s++[a]) (fP s (cq s) a) b).2.2]:=by
 have e:s++[a,b]=(s++[a])++[b]:=by simp
 rw [e,eb,eb];simp [fP]
theorem ti {s:List OpD}{x:iE}{r:List iE}{ops:List OpD}(h:(cq ops).al=(cq s).al++x::r):(cq ops).al[s.length]?=some x:=by
 rw [h,aR (by rw [iV];omega),iV,Nat.sub_self];rfl
theorem Bm {s:List OpD}{x y:iE}{r:List iE}{ops:List OpD}(h:(cq ops).al=(cq s).al++x::y::r):(cq ops).al[s.length+1]?=some y:=by
 rw [h,aR (by rw [iV];omega),iV,Nat.add_sub_cancel_left];rfl
def yR:List OpD:=[⟨1,svB,svX,⟨#[]⟩,⟨#[]⟩,0,0⟩,cX,⟨4,svB,⟨#[]⟩,⟨#[]⟩,⟨#[]⟩,0,0⟩,⟨12,⟨#[]⟩,⟨#[]⟩,⟨#[]⟩,⟨#[]⟩,0,1⟩,⟨2,svB,⟨#[]⟩,⟨#[]⟩,⟨#[]⟩,0,0⟩]
theorem G0:∃a0 a1 a2,(cq yR).al=[a0,a1,a2,⟨0,0,⟨#[]⟩,[],⟨#[]⟩⟩,⟨0,1,svX,[],⟨#[]⟩⟩]:=by
 obtain ⟨st1,h1⟩:∃st1,st1=yK:=⟨_,rfl⟩;have hL:fj (dK st1 0)=some (st1,0):=by rw [h1];exact Ft
 have e1:cq [⟨1,svB,svX,⟨#[]⟩,⟨#[]⟩,0,0⟩]=⟨st1,⟨[],0,[],0⟩,[⟨0,1,⟨#[]⟩,[],⟨#[]⟩⟩]⟩:=by rw [h1];rfl
 have e2:cq [⟨1,svB,svX,⟨#[]⟩,⟨#[]⟩,0,0⟩,cX]=⟨st1,⟨[],0,[],0⟩,[⟨0,1,⟨#[]⟩,[],⟨#[]⟩⟩,⟨0,0,dK st1 0,[],⟨#[]⟩⟩]⟩:=by
  have:=eb [⟨1,svB,svX,⟨#[]⟩,⟨#[]⟩,0,0⟩] cX;rw [e1] at this;refine this.trans ?_;rw [fP,mL];rfl
 have e3:∃d:Dk,cq [⟨1,svB,svX,⟨#[]⟩,⟨#[]⟩,0,0⟩,cX,⟨4,svB,⟨#[]⟩,⟨#[]⟩,⟨#[]⟩,0,0⟩]=d/\∃a2,d.al=[⟨0,1,⟨#[]⟩,[],⟨#[]⟩⟩,⟨0,0,dK st1 0,[],⟨#[]⟩⟩,a2]/\a2.body=⟨#[]⟩:=by
  have:=eb [⟨1,svB,svX,⟨#[]⟩,⟨#[]⟩,0,0⟩,cX] ⟨4,svB,⟨#[]⟩,⟨#[]⟩,⟨#[]⟩,0,0⟩;rw [e2] at this;refine ⟨_,this,_,rfl,?_⟩;simp [gY,lm,stepA,bz]
  repeat' split
  all_goals rfl
 obtain ⟨d,e3,a2,e3',-⟩:=e3;have e4:=eb [⟨1,svB,svX,⟨#[]⟩,⟨#[]⟩,0,0⟩,cX,⟨4,svB,⟨#[]⟩,⟨#[]⟩,⟨#[]⟩,0,0⟩] ⟨12,⟨#[]⟩,⟨#[]⟩,⟨#[]⟩,⟨#[]⟩,0,1⟩;rw [e3] at e4;have hres:gY [⟨1,svB,svX,⟨#[]⟩,⟨#[]⟩,0,0⟩,cX,⟨4,svB,⟨#[]⟩,⟨#[]⟩,⟨#[]⟩,0,0⟩] d ⟨12,⟨#[]⟩,⟨#[]⟩,⟨#[]⟩,⟨#[]⟩,0,1⟩=(st1,{d.L with opened:=[],tm:=0},⟨0,0,⟨#[]⟩,[],⟨#[]⟩⟩):=by
  have es:cW ([⟨1,svB,svX,⟨#[]⟩,⟨#[]⟩,0,0⟩,cX,⟨4,svB,⟨#[]⟩,⟨#[]⟩,⟨#[]⟩,0,0⟩].map (·.kind)) d.bods 1 ⟨#[]⟩=dK st1 0:=by
   simp [cW,Dk.bods,e3',cX]
  simp only [gY,lm,if_true];rw [es,cE,hL]
 rw [fP,hres,e3'] at e4;have e5:=eb [⟨1,svB,svX,⟨#[]⟩,⟨#[]⟩,0,0⟩,cX,⟨4,svB,⟨#[]⟩,⟨#[]⟩,⟨#[]⟩,0,0⟩,⟨12,⟨#[]⟩,⟨#[]⟩,⟨#[]⟩,⟨#[]⟩,0,1⟩] ⟨2,svB,⟨#[]⟩,⟨#[]⟩,⟨#[]⟩,0,0⟩;have e4':cq [⟨1,svB,svX,⟨#[]⟩,⟨#[]⟩,0,0⟩,cX,⟨4,svB,⟨#[]⟩,⟨#[]⟩,⟨#[]⟩,0,0⟩,⟨12,⟨#[]⟩,⟨#[]⟩,⟨#[]⟩,⟨#[]⟩,0,1⟩]=_:=e4;rw [e4'] at e5;have e5':cq yR=_:=e5;refine ⟨⟨0,1,⟨#[]⟩,[],⟨#[]⟩⟩,⟨0,0,dK st1 0,[],⟨#[]⟩⟩,a2,?_⟩;rw [e5'];clear e5' e5 e4 e4' hres e3 e3' e2 e1 hL;subst h1;rfl
theorem Gl:Sized yR:=by
 intro o ho;simp only [yR,List.mem_cons,List.not_mem_nil,or_false] at ho;rcases ho with rfl|rfl|rfl|rfl|rfl<;>exact ⟨by simp only [maxLen,cX];decide,by simp only [maxLen,cX];decide⟩
theorem pi (w:Wz):(Instr.build 31 #[(0,.int .i64 11)]).run Yq.prog w=.ok (.agg #[.int .i64 11,.string ⟨#[]⟩,.string ⟨#[]⟩,.string ⟨#[]⟩,.string ⟨#[]⟩,.int .i64 0,.int .i64 0]) w:=by kernel_rfl
theorem vm (w:Wz):(Instr.build 31 #[(0,.int .i64 12),(6,.int .i64 1)]).run Yq.prog w=.ok (.agg #[.int .i64 12,.string ⟨#[]⟩,.string ⟨#[]⟩,.string ⟨#[]⟩,.string ⟨#[]⟩,.int .i64 0,.int .i64 1]) w:=by kernel_rfl
theorem yM {G:Wz->Prop}{N:Nat}(hAns:Gk G N)(h7:7<=N)(hN:N<2199023255300)(w:Wz)(hG:∀w',ak w w'->G w'):Calls Yq.prog 29 #[] w fun e w'=>(e=.returned (.bool true)/\ak w w')\/Stop vk e w':=by
 have HR:Hid (∀W:Wz,ak w W->Calls Yq.prog 18 #[.slice (some ⟨W.heap.size,0,none⟩) 5 5] (W.alloc (.cells (yR.flatMap aJ).toArray 31)) fun e w'=>GU yR 5 (W.alloc (.cells (yR.flatMap aJ).toArray 31)) e w'\/Stop vk e w'):=fun W hlW=>
  j6 hAns _ yR _ (fun w' h=>hG w' ((hlW.alloc _).trans h)) (nU W yR _ _ rfl 5 rfl Gl (by simp [yR])) (by simp [yR]) (by simp [yR];omega) hN
 have hb1:=pi;have hb2:=vm;clear hAns hG;go_enter (Yq.nq Tryz.func29),Tryz.ntmps29;go_wp2_with fail
 refine (vj _ _ _ w).mono ?_;rintro e w1 ⟨rfl,b1⟩;go_wp2_with fail
 refine (vj _ _ _ w1).mono ?_;rintro e w2 ⟨rfl,b2⟩;replace b2:=b1.trans (b2.mono b1.size);go_wp2_with fail
 refine (vj _ _ _ w2).mono ?_;rintro e w3 ⟨rfl,b3⟩;replace b3:=b2.trans (b3.mono b2.size);clear b1 b2;go_wp2_with fail
 refine (HR.out w3 (.below b3)).mono ?_;rintro e w8 (⟨g,rfl,hl,hA⟩|hst)
 .have HB:Hid (ak w w8):=((ak.below b3).alloc _).trans hl;obtain ⟨x0,x1,x2,hrun⟩:=G0;obtain ⟨v3,c0,-⟩:=hA 3 ⟨0,0,⟨#[]⟩,[],⟨#[]⟩⟩ (by rw [hrun];rfl);obtain ⟨v4,d0,-,d2,-⟩:=hA 4 ⟨0,1,svX,[],⟨#[]⟩⟩ (by rw [hrun];rfl);simp only [svX,Nat.reduceMul,Nat.reduceAdd] at c0 d0 d2;clear hA hrun hl HR b3;go_wp2;go_ret;exact .inl ⟨rfl,HB.out⟩
 .obtain ⟨x,y,r,rfl,hst⟩:=hst;exact ⟨rfl,.inr ⟨x,y,r,rfl,hst⟩⟩
theorem Dq (k0 g0 c:Nat)(ks:List Int)(bs:List ByteArray)(o:OpD)(w:Wz)(hn:bs.length<=2199023255552)(c8:w.cell? ⟨k0,8,none⟩=some (.slice (some ⟨g0,0,none⟩) bs.length c))(hb:DL w k0 g0 bs.length ks bs):
  Calls Yq.prog 50 #[.pointer (some ⟨k0,0,none⟩),cj o] w fun e w'=>e=.returned (.string (cW ks bs o.src o.body))/\Below w.heap.size w w':=by
 obtain ⟨kind,key,body,delim,past,n,src⟩:=o;obtain ⟨sb,so,sn,sc,c7,hsn,hks⟩:=hb.script;have hbd:=hb.bodies;have hkl:=hb.kl;have hlt:k0<w.heap.size:=bC w _ c8;obtain ⟨W,hW⟩:∃W,W=w.alloc (.cells #[.int .i64 kind,.string key,.string body,.string delim,.string past,.int .i64 n,.int .i64 src] 31):=⟨_,rfl⟩;have hbW:Below w.heap.size w W:=by rw [hW];exact (bR _ _).alloc (lR _) _
 have hbD:Below w.heap.size w {W with drawn:=W.drawn+1}:=⟨hbW.os,hbW.tape,hbW.output,hbW.size,hbW.block⟩;have d8:=aj hbW c8;have d7:=aj hbW c7;have HA:=wz k0 (some ⟨g0,0,none⟩) bs.length c src {W with drawn:=W.drawn+1} hn (aj hbD c8);have hrow:W.heap[w.heap.size]?=some (.cells #[.int .i64 kind,.string key,.string body,.string delim,.string past,.int .i64 n,.int .i64 src] 31):=by rw [hW];exact aN _ _
 have d6:W.cell? ⟨w.heap.size,6,none⟩=some (.int .i64 src):=by simp [World.cell?,hrow]
 have HB:Hid (Below w.heap.size w W/\W.cell? ⟨k0,7,none⟩=some (.slice (some ⟨sb,so,none⟩) sn sc)/\W.cell? ⟨w.heap.size,6,none⟩=some (.int .i64 src)):=⟨hbW,d7,d6⟩;have HW:Hid (W=w.alloc (.cells #[.int .i64 kind,.string key,.string body,.string delim,.string past,.int .i64 n,.int .i64 src] 31)):=hW;have hr2:({W with drawn:=W.drawn+1}:Wz).cell? ⟨w.heap.size,2,none⟩=some (.string body):=by
  show W.cell? _=_;simp [World.cell?,hrow]
 have hr6:({W with drawn:=W.drawn+1}:Wz).cell? ⟨w.heap.size,6,none⟩=some (.int .i64 src):=d6;have hr8:({W with drawn:=W.drawn+1}:Wz).cell? ⟨k0,8,none⟩=some (.slice (some ⟨g0,0,none⟩) bs.length c):=d8;obtain ⟨D,hD⟩:∃D:Wz,D={W with drawn:=W.drawn+1}:=⟨_,rfl⟩;have HDD:Hid (D={W with drawn:=W.drawn+1}/\Below w.heap.size w D):=⟨hD,by rw [hD];exact hbD⟩;rw [<-hD] at hr2 hr6 hr8 HA;unfold cj;simp only;by_cases ha:0<=src/\src<bs.length
 .have hd:decide (0<=src/\src<bs.length)=true:=by simp [ha]
  rw [hd] at HA;obtain ⟨s,rfl⟩:∃s:Nat,src=s:=⟨src.toNat,by omega⟩;have hs:s<bs.length:=by omega
  have hs2:s<ks.length:=by omega
  have ck:=aj hbW (hks s hs2);have cbD:D.cell? ⟨g0,s * 5+2,none⟩=some (.string bs[s]):=by rw [hD];exact aj hbW (hbd s hs)
  have e0:ks[(s:Int).toNat]?.getD 0=ks[s]:=by simp [hs2]
  have e1:bs[(s:Int).toNat]?.getD ⟨#[]⟩=bs[s]:=by simp [hs]
  have hR:cW ks bs s body=if ks[s]=11 then bs[s] else body:=by rw [cW,if_pos ha,e0,e1]
  rw [hR];have hsS:s<sn:=by omega
  generalize ks[s]=t at *;generalize bs[s]=bb at *;clear hW hbW hbD d8 d7 d6 hrow hks hbd c8 c7 hb hD;by_cases htk:t=11
  .have hbv:(t==11)=true:=by simp [htk]
   rw [if_pos htk];go_enter (Yq.nq Tryz.func50),Tryz.ntmps50
   go_upto_region 1 with fail
   rename_i K1 hK1 K2 hK2;rw [<-HW.out];refine wpIn_wide.1 (show Code.wpIn (wf none) 0 _ _ _ _ _ from wB (id:=1) (m:=0) (s:=s) (so:=so) (j:=7) (i1:=so+s * 7) (i2:=so+s * 7) (lv:=.int .i64 t) (b:=t==11) (ops:=uR) rfl rfl rfl HB.out.2.2 (.inr ⟨rfl,rfl,rfl,rfl,t,rfl,rfl⟩) HB.out.2.1 rfl hsS ck (by rw [<-HDD.out.1];exact HA) (fun a h1 h2 h3 h4=>?_));rw [<-HDD.out.1];have h2:a.defers=[]:=h2;have ha:=iw a 32 h1;rw [hbv] at h4;have f0:a.eval (.tmp 0)=.pointer (some ⟨k0,0,none⟩):=h3 0 (by decide);have f3:a.eval (.tmp 3)=.pointer (some ⟨w.heap.size,0,none⟩):=h3 3 (by decide);refine hK2 _ _ ?_;rw [ha,h2];clear ha h1 h2 h3;generalize a.eval=ρ at f0 f3 h4 ⊢;simp only [List.range,List.range.loop,List.map_cons,List.map_nil,f0,f3,h4];clear f0 f3 h4 hK2 K2 HA ck;have h1i:¬((s:Int)<0):=by omega
   go_wp2_with fail
   go_region
   all_goals
    go_wp2;go_ret;exact ⟨rfl,HDD.out.2.drew⟩
  .have hbv:(t==11)=false:=by simp [htk]
   rw [if_neg htk];go_enter (Yq.nq Tryz.func50),Tryz.ntmps50
   go_upto_region 1 with fail
   rename_i K1 hK1 K2 hK2;rw [<-HW.out];refine wpIn_wide.1 (show Code.wpIn (wf none) 0 _ _ _ _ _ from wB (id:=1) (m:=0) (s:=s) (so:=so) (j:=7) (i1:=so+s * 7) (i2:=so+s * 7) (lv:=.int .i64 t) (b:=t==11) (ops:=uR) rfl rfl rfl HB.out.2.2 (.inr ⟨rfl,rfl,rfl,rfl,t,rfl,rfl⟩) HB.out.2.1 rfl hsS ck (by rw [<-HDD.out.1];exact HA) (fun a h1 h2 h3 h4=>?_));rw [<-HDD.out.1];have h2:a.defers=[]:=h2;have ha:=iw a 32 h1;rw [hbv] at h4;have f0:a.eval (.tmp 0)=.pointer (some ⟨k0,0,none⟩):=h3 0 (by decide);have f3:a.eval (.tmp 3)=.pointer (some ⟨w.heap.size,0,none⟩):=h3 3 (by decide);refine hK2 _ _ ?_;rw [ha,h2];clear ha h1 h2 h3;generalize a.eval=ρ at f0 f3 h4 ⊢;simp only [List.range,List.range.loop,List.map_cons,List.map_nil,f0,f3,h4];clear f0 f3 h4 hK2 K2 HA ck;go_wp2_with fail
   go_ret;exact ⟨rfl,HDD.out.2⟩
 .have hd:decide (0<=src/\src<bs.length)=false:=by simpa using ha
  rw [hd] at HA;have hR:cW ks bs src body=body:=by rw [cW,if_neg ha]
  rw [hR];clear hW hbW hbD d8 d7 d6 hrow hks hbd c8 c7 hb hD;go_enter (Yq.nq Tryz.func50),Tryz.ntmps50
  go_upto_region 1 with fail
  rename_i K1 hK1 K2 hK2;rw [<-HW.out];refine wpIn_wide.1 (show Code.wpIn (wf none) 0 _ _ _ _ _ from Gd (id:=1) (m:=0) (ops:=uR) rfl rfl rfl HB.out.2.2 (.inr rfl) (by rw [<-HDD.out.1];exact HA) (fun a h1 h2 h3 h4=>?_));rw [<-HDD.out.1];have h2:a.defers=[]:=h2;have ha:=iw a 32 h1;have f0:a.eval (.tmp 0)=.pointer (some ⟨k0,0,none⟩):=h3 0 (by decide);have f3:a.eval (.tmp 3)=.pointer (some ⟨w.heap.size,0,none⟩):=h3 3 (by decide);refine hK2 _ _ ?_;rw [ha,h2];clear ha h1 h2 h3;generalize a.eval=ρ at f0 f3 h4 ⊢;simp only [List.range,List.range.loop,List.map_cons,List.map_nil,f0,f3,h4];clear f0 f3 h4 hK2 K2 HA;go_wp2_with fail
  go_ret;exact ⟨rfl,HDD.out.2⟩
theorem Bn (k0:Nat)(v:Wq)(w:Wz)(c4:w.cell? ⟨k0,4,none⟩=some v)(f4:w.frozen? ⟨k0,4,none⟩=false):
  Calls Yq.prog 80 #[.pointer (some ⟨k0,4,none⟩)] w fun e w'=>e=.returned (.tuple #[])/\w'=w.setCell ⟨k0,4,none⟩ (.slice none 0 0):=by
 go_enter (Yq.nq Tryz.func80),Tryz.ntmps80;go_wp2;go_end0;exact ⟨rfl,rfl⟩
section
variable {A:Nat->Prop} {B k0:Nat} {w w2:Wz} {st:St} {L:Lg}
theorem Bo (h:aH A B w k0 st L)(hl:ak w w2){A1:Nat->Prop}{p:Option Addr}{st':St}{tm:Int}(hN:ai A1 41 w2 p st'.f)(hA1:∀b,A1 b->w.heap.size<=b)(_hB:B<=w.heap.size):
  ∃A':Nat->Prop,(∀b,A b->A' b)/\(∀b,A' b->A b\/w.heap.size<=b)/\aH A' B (put5 w2 k0 (.pointer p) (.int .i64 st'.count) (.int .i64 st'.last) (.int .u64 tm) (.slice none 0 0)) k0 st' {L with opened:=[],tm:=tm}/\dR A B k0 w (put5 w2 k0 (.pointer p) (.int .i64 st'.count) (.int .i64 st'.last) (.int .u64 tm) (.slice none 0 0))/\FrC k0 w (put5 w2 k0 (.pointer p) (.int .i64 st'.count) (.int .i64 st'.last) (.int .u64 tm) (.slice none 0 0)):=by
 have h2:=h.left hl;obtain ⟨p0,c0,-⟩:=h2.store.tree;obtain ⟨v,c4,-⟩:=h2.ls.opened;obtain ⟨mv,c6,hm⟩:=h.ls.told;replace c6:=hl.cell c6;have c1:=h2.store.count;have c2:=h2.store.last;have c3:=h2.time;have hlt:=h.ls.lt;have hlow:=h.ls.low;obtain ⟨W,hW⟩:∃W,W=put5 w2 k0 (.pointer p) (.int .i64 st'.count) (.int .i64 st'.last) (.int .u64 tm) (.slice none 0 0):=⟨_,rfl⟩;have hne:∀b,b≠k0->W.heap[b]?=w2.heap[b]?:=fun b hb=>by
  rw [hW,put5,bS _ _ _ _ hb,bS _ _ _ _ hb,bS _ _ _ _ hb,bS _ _ _ _ hb,bS _ _ _ _ hb]
 have d0:W.cell? ⟨k0,0,none⟩=some (.pointer p):=by rw [hW];exact co (by simp) (co (by simp) (co (by simp) (co (by simp) (cs c0))))
 have d1:W.cell? ⟨k0,1,none⟩=some (.int .i64 st'.count):=by rw [hW];exact co (by simp) (co (by simp) (co (by simp) (cs (co (by simp) c1))))
 have d2:W.cell? ⟨k0,2,none⟩=some (.int .i64 st'.last):=by rw [hW];exact co (by simp) (co (by simp) (cs (co (by simp) (co (by simp) c2))))
 have d3:W.cell? ⟨k0,3,none⟩=some (.int .u64 tm):=by rw [hW];exact co (by simp) (cs (co (by simp) (co (by simp) (co (by simp) c3))))
 have d4:W.cell? ⟨k0,4,none⟩=some (.slice none 0 0):=by rw [hW];exact cs (co (by simp) (co (by simp) (co (by simp) (co (by simp) c4))))
 have dj:∀j,4<j->W.cell? ⟨k0,j,none⟩=w2.cell? ⟨k0,j,none⟩:=fun j hj=>by
  rw [hW,put5,cO _ _ _ _ (aV (by omega)),cO _ _ _ _ (aV (by omega)),cO _ _ _ _ (aV (by omega)),cO _ _ _ _ (aV (by omega)),cO _ _ _ _ (aV (by omega))]
 have hf:∀j,W.frozen? ⟨k0,j,none⟩=w2.frozen? ⟨k0,j,none⟩:=fun j=>by
  rw [hW,put5];simp only [World.frozen?_setCell]
 have hsz:W.heap.size=w2.heap.size:=by rw [hW];simp [put5]
 have hs2:=hl.size;rw [<-hW];have hfz:∀j,W.frozen? ⟨k0,j,none⟩=false:=fun j=>(hf j).trans (h2.ls.frozen j)
 refine ⟨fun b=>A b\/(A1 b/\b<w2.heap.size),fun b hb=>.inl hb,fun b hb=>hb.imp id fun h=>hA1 b h.1,⟨⟨fun b hb e=>?_,⟨p,d0,ai.keep (fun b h1 h3=>⟨.inr ⟨h1,h3⟩,hne b (fun e=>by have:=hA1 b h1;omega)⟩) 41 _ _ hN⟩,d1,d2,hfz⟩,⟨⟨_,d4,[],rfl,⟨by simp [aS],.inl ⟨rfl,rfl⟩⟩,fun g hg=>by simp [Value.ownBlock] at hg,fun z hz=>by simp at hz⟩,(dj 5 (by omega)).trans h2.ls.begun,⟨mv,(dj 6 (by omega)).trans c6,?_⟩,hfz,fun hb=>?_,hlow,fun b hb=>?_⟩,d3⟩,⟨?_,by omega,fun b _ h3 h4=>(hne b h4).trans (hl.block b h3),fun b h3 h4=>(hne b (fun e=>h.ls.avoid (e▸h3))).trans (hl.block b h4),fun j hj=>(dj j (by omega)).trans (cB (a:=⟨k0,j,none⟩) (hl.block k0 hlt)),fun j=>(hf j).trans (fB (a:=⟨k0,j,none⟩) (hl.block k0 hlt))⟩,⟨by omega,fun b hb h3 _=>(hne b h3).trans (hl.block b hb.lt),fun b ho=>?_⟩⟩
 .subst e;rcases hb with hb|hb
  .exact h.ls.avoid hb
  .have:=hA1 _ hb.1;omega
 .rcases hm with hm|⟨m,es,clock,m1,m2,m3,m4,m5⟩
  .exact .inl hm
  .have hml:=(eS m2).1;exact .inr ⟨m,es,clock,m1,(hne m (by omega)).trans ((hl.block m hml).trans m2),m3,fun hx=>hx.elim m4 fun hx=>by have:=hA1 _ hx.1;omega,m5⟩
 .rcases hb with hb|hb
  .exact h.ls.avoid hb
  .have:=hA1 _ hb.1;omega
 .rcases hb with hb|hb
  .have:=h2.ls.inn b hb;omega
  .omega
 .rw [hW];show w2.os=w.os;exact hl.os
 .obtain ⟨x,h1,h3⟩:=ho;rw [d4] at h1;cases h1;simp [Value.ownBlock] at h3
theorem Dr (h:aH A B w k0 st L)(hB:B<=w.heap.size)(saved:ByteArray)(hs:saved.size<=maxLen):
  Calls Yq.prog 49 #[.pointer (some ⟨k0,0,none⟩),.string saved] w fun e w'=>e=.returned (.int .i64 (cE st L saved).2.2.code)/\∃A':Nat->Prop,(∀b,A b->A' b)/\(∀b,A' b->A b\/w.heap.size<=b)/\aH A' B w' k0 (cE st L saved).1 (cE st L saved).2.1/\dR A B k0 w w'/\FrC k0 w w':=by
 have HD:Hid (aH A B w k0 st L/\B<=w.heap.size):=⟨h,hB⟩;have HL:=Fg saved w hs;clear h hs hB;go_enter (Yq.nq Tryz.func49),Tryz.ntmps49;go_wp2_with fail
 refine HL.mono ?_;clear HL;rintro e w1 ⟨l1,⟨e0,rfl⟩|⟨st',tm,p,A1,e0,rfl,hN,hA1,hI,hT⟩⟩
 .have HR:Hid (cE st L saved=(st,L,⟨12,0,⟨#[]⟩,[],⟨#[]⟩⟩)):=by show cE st L saved=_;rw [cE,e0]
  have HL1:Hid (ak w w1):=l1;clear e0 l1;go_wp2;go_ret;rw [HR.out];have hl:=HL1.out.alloc (.cells #[.pointer none,.int .i64 0,.int .i64 0,.int .u64 0] 59);exact ⟨rfl,A,fun _ h=>h,fun _ h=>.inl h,HD.out.1.left hl,dR.left HD.out.1.ls.lt hl,FrC.left HD.out.1.ls.lt hl⟩
 .have HR:Hid (cE st L saved=(st',{L with opened:=[],tm:=tm},⟨0,0,⟨#[]⟩,[],⟨#[]⟩⟩)):=by show cE st L saved=_;rw [cE,e0]
  obtain ⟨W,hW⟩:∃W,W=w1.alloc (.cells #[.pointer p,.int .i64 st'.count,.int .i64 st'.last,.int .u64 tm] 59):=⟨_,rfl⟩;have hl:ak w W:=by rw [hW];exact l1.alloc _
  have hNW:ai A1 41 W p st'.f:=by rw [hW];exact ai.keep (fun b h1 h2=>⟨h1,bA _ _ _ h2⟩) 41 _ _ hN
  have HF:Hid (_/\ak w W):=⟨Bo (tm:=tm) HD.out.1 hl hNW hA1 HD.out.2,hl⟩;have h2:=HD.out.1.left l1;obtain ⟨p0,c0,-⟩:=h2.store.tree;obtain ⟨v,c4,-⟩:=h2.ls.opened;have e0:=an c0;have e1:=an h2.store.count;have e2:=an h2.store.last;have e3:=an h2.time;have e4:=an c4;have g0:=aq c0 (h2.ls.frozen 0);have g1:=aq h2.store.count (h2.ls.frozen 1);have g2:=aq h2.store.last (h2.ls.frozen 2);have g3:=aq h2.time (h2.ls.frozen 3);have g4:=aq c4 (h2.ls.frozen 4);have HWW:Hid (W=w1.alloc (.cells #[.pointer p,.int .i64 st'.count,.int .i64 st'.last,.int .u64 tm] 59)):=hW;have HE4:Hid ((∀O,(w1.alloc O).cell? ⟨k0,4,none⟩=some v)/\∀O,(w1.alloc O).frozen? ⟨k0,4,none⟩=false):=⟨e4,g4⟩;clear hl hNW hN hA1 hI hT l1 h2 hW c0 c4 e4 g4;go_wp2_with (go_at_call 80;refine (Bn k0 v _ (co (by simp) (co (by simp) (co (by simp) (co (by simp) (HE4.out.1 _))))) (fs (fs (fs (fs (HE4.out.2 _)))))).mono ?_;rintro e w3 ⟨rfl,rfl⟩)
  go_ret;rw [HR.out,<-HWW.out];obtain ⟨A',a1,a2,a3,a4,a5⟩:=HF.out.1;exact ⟨rfl,A',a1,a2,a3,a4,a5⟩
theorem vn (h:aH A B w k0 st L)(hB:B<=w.heap.size)(o:OpD)(hk:o.kind=12)(hbz:o.body.size<=maxLen)(s g0 cp:Nat)(hs:s<2199023255340)(c8:w.cell? ⟨k0,8,none⟩=some (.slice (some ⟨g0,0,none⟩) s cp))(ks:List Int)(bs:List ByteArray)(hb:DL w k0 g0 s ks bs):
  Calls Yq.prog 33 #[.pointer (some ⟨k0,0,none⟩),cj o] w (bg A B k0 w (cE st L (cW ks bs o.src o.body)).1 (cE st L (cW ks bs o.src o.body)).2.1 (cE st L (cW ks bs o.src o.body)).2.2):=by
 obtain ⟨sv,hsv⟩:∃sv,sv=cW ks bs o.src o.body:=⟨_,rfl⟩;have hsz:sv.size<=maxLen:=by
  rw [hsv,cW];split
  .split
   .rename_i h1 h2;obtain ⟨x,hx⟩:∃x,bs[o.src.toNat]?=some x:=⟨_,eL (by omega)⟩;rw [hx];exact hb.small x (List.mem_of_getElem? hx)
   .exact hbz
  .exact hbz
 have hl0:ak w (cx w o):=aK o;have hbl:=hb.bl;subst hbl;have HS:=Dq k0 g0 cp ks bs o (cx w o) (by omega) (hl0.cell c8) (hb.left hl0);rw [<-hsv] at HS ⊢;have hlt:=h.ls.lt;have HL:Hid (∀w1,ak (cx w o) w1->Calls Yq.prog 49 #[.pointer (some ⟨k0,0,none⟩),.string sv] w1 fun e w'=>e=.returned (.int .i64 (cE st L sv).2.2.code)/\∃A':Nat->Prop,(∀b,A b->A' b)/\(∀b,A' b->A b\/(cx w o).heap.size<=b)/\aH A' B w' k0 (cE st L sv).1 (cE st L sv).2.1/\dR A B k0 (cx w o) w'/\FrC k0 (cx w o) w'):=fun w1 hl=>by
  have hs1:=hl.size;have hs0:=hl0.size;refine (Dr (h.left (hl0.trans hl)) (by omega) sv hsz).mono ?_;rintro e w' ⟨rfl,A',a1,a2,a3,a4,a5⟩;exact ⟨rfl,A',a1,fun b hb=>(a2 b hb).imp id fun h=>by omega,a3,(dR.left (by omega) hl).trans a4,(FrC.left (by omega) hl).trans a5⟩
 have HB:Hid (∀w1,FrC k0 (cx w o) w1->_):=fun w1 hf=>box5 (jZ o h.ls hf)
 have hca:(cE st L sv).2.2=⟨(cE st L sv).2.2.code,0,⟨#[]⟩,[],⟨#[]⟩⟩:=by
  unfold cE;split<;>rfl
 have HF:Hid (∀w1 x0 x1 x2 x3 x4 (A':Nat->Prop),(∀b,A b->A' b)->(∀b,A' b->A b\/(cx w o).heap.size<=b)->aH A' B w1 k0 (cE st L sv).1 (cE st L sv).2.1->dR A B k0 (cx w o) w1->FrC k0 (cx w o) w1->bg A B k0 w (cE st L sv).1 (cE st L sv).2.1 ⟨(cE st L sv).2.2.code,0,⟨#[]⟩,[],⟨#[]⟩⟩ (.returned (iS ⟨(cE st L sv).2.2.code,0,⟨#[]⟩,[],⟨#[]⟩⟩ (.slice none 0 0))) (put5 w1 (w.heap.size+1) x0 x1 x2 x3 x4)):=fun w1 x0 x1 x2 x3 x4 A' a1 a2 d1 d2 d3=>by
  obtain ⟨e1,e2,e3,e4⟩:=kZ (A':=A') (sv:=.slice none 0 0) (its:=[]) (r:=w.heap.size+1) hl0 hlt hB (by omega) (by rw [aL];omega) ⟨_,fD o,rfl⟩ a1 a2 h.ls.inn d1 d2 d3 (fg o h.ls) ⟨none,0,rfl,fun _=>rfl,fun h=>absurd rfl h⟩ x0 x1 x2 x3 x4;exact ⟨_,rfl,A',a1,e1,e2,e3,e4⟩
 have hb1:=o5;rw [hca];clear hca hsv;generalize cE st L sv=R at HL HF ⊢;obtain ⟨st',L',ca⟩:=R;obtain ⟨cd,x1,x2,x3,x4⟩:=ca;simp only at HL HF ⊢;obtain ⟨kind,key,body,delim,past,n,src⟩:=o;simp only at hk;subst hk;unfold cx at HS HL HF HB;clear h hb hsz hl0 hB hbz c8;unfold cj at HS ⊢;go_enter (Yq.nq Tryz.func33),Tryz.ntmps33;go_wp2_with (first
  |(go_at_call 50;refine HS.mono ?_;clear HS;rintro e w1 ⟨rfl,hb⟩)
  |(go_at_call 49;refine (HL.out w1 (.below hb)).mono ?_;clear HL;rintro e w2 ⟨rfl,A',a1,a2,d1,d2,d3⟩;obtain ⟨⟨b0,b1,b2,b3,b4⟩,f0,f1,f2,f3,f4⟩:=HB.out w2 d3))
 exact bodyPost_ret (v:=iS ⟨cd,0,⟨#[]⟩,[],⟨#[]⟩⟩ (.slice none 0 0)) (by simp [results,Tryz.results33,go_sem,iS,b0,b1,b2,b3,b4]) rfl (HF.out w2 _ _ _ _ _ A' a1 a2 d1 d2 d3)
end
section
variable {u0 u1 u2 u3 u4 u5 u6 u7 u8 u9 u10 u11 u12 u13 u14 u15 u16 u17 u18 u19 u20 u21 u22 u23 u24 u25 u26 u27 u28 u29 u30 u31 u32 u33 u34 u35 u36 u37 u38 u39 u40 u41 u42 u43 u44 u45 u46 u47 u48 u49 u50 u51 u52 u53 u54 u55 u56 u57 u58 u59 u60 u61 u62 u63 u64 u65 u66 u67 u68 u69 u70 u71 u72 u73 u74 u75 u76 u77 u78 u79 u80 u81 u82 u83 u84 u85 u86 u87 u88 u89 u90 u91 u92 u93 u94 u95 u96 u97 u98 u99 u100 u101 u102 u103 u104 u105 u106 u107 u108 u109 u110 u111 u112 u113 u114 u115 u116 u117 u118 u119 u120 u121 u122 u123 u124 u125 u126 u127 u128 u129 u130 u131 u132 u133 u134 u135 u136 u137 u138 u139 u140 u141:Wq}
noncomputable def Ds:Code:=bB (bB (bB (bB (bB (bB (bB (bB (bB (bB (bB (bB (aZ Tryz.f14))))))))))))
noncomputable def Bp:Code:=bB Ds
theorem Fu {w x:Wz}{ga gb gc gd n0:Nat}(hn0:n0<=2199023255552){ver:Int}{sb:ByteArray}
  (a0:x.cell? ⟨ga,n0 * 5,none⟩=some (.int .i64 12)) (c0:x.cell? ⟨gc,n0 * 5,none⟩=some (.int .i64 12)) (a2:x.cell? ⟨ga,(n0+1) * 5+2,none⟩=some (.string sb)) (b2:x.cell? ⟨gb,n0 * 5+2,none⟩=some (.string sb)) (c1:x.cell? ⟨gc,(n0+1) * 5+1,none⟩=some (.int .i64 ver)) (d1:x.cell? ⟨gd,n0 * 5+1,none⟩=some (.int .i64 ver)) (hl:ak w x):
  Bp.wp Yq.prog (bodyPost Yq.prog Tryz.f14 fun e w'=>(e=.returned (.bool true)/\ak w w')\/Stop vk e w') ⟨#[u0,u1,u2,u3,u4,u5,u6,.int .i64 n0,u8,.slice (some ⟨ga,0,none⟩) (n0+2) (n0+2),.slice (some ⟨gb,0,none⟩) (n0+1) (n0+1),.slice (some ⟨gc,0,none⟩) (n0+2) (n0+2),.slice (some ⟨gd,0,none⟩) (n0+1) (n0+1),.bool true,u14,u15,u16,u17,u18,u19,u20,u21,u22,u23,u24,u25,u26,u27,u28,u29,u30,u31,u32,u33,u34,u35,u36,u37,u38,u39,u40,u41,u42,u43,u44,u45,u46,u47,u48,u49,u50,u51,u52,u53,u54,u55,u56,u57,u58,u59,u60,u61,u62,u63,u64,u65,u66,u67,u68,u69,u70,u71,u72,u73,u74,u75,u76,u77,u78,u79,u80,u81,u82,u83,u84,u85,u86,u87,u88,u89,u90,u91,u92,u93,u94,u95,u96,u97,u98,u99,u100,u101,u102,u103,u104,u105,u106,u107,u108,u109,u110,u111,u112,u113,u114,u115,u116,u117,u118,u119,u120,u121,u122,u123,u124,u125,u126,u127,u128,u129,u130,u131,u132,u133,u134,u135,u136,u137,u138,u139,u140,u141],[]⟩ x:=by
 have i1:(n0:Int)<n0+2:=by omega
 have i2:(n0:Int)+1<n0+2:=by omega
 have i3:(0:Int)<=n0+1:=by omega
 have i4:((n0:Int)+1).toNat=n0+1:=by omega
 have i5:IntKind.i64.wrap ((n0:Int)+1)=n0+1:=by simp [IntKind.wrap,IntKind.bits,IntKind.signed];omega
 have i6:(n0:Int)<n0+1:=by omega
 have HL:Hid (∀k,ak w (x.drewN k)):=fun k=>⟨hl.os,hl.size,hl.block⟩
 clear hl;dsimp only [Bp,Ds,aZ,Tryz.f14,cIn,fI,bB,Option.getD];go_wp2_with fail
 go_quiet (fail)
 go_wp2;go_ret;exact .inl ⟨rfl,HL.out _⟩
theorem Gm {w x:Wz}{K1:Act->Wz->Prop}(hK1:∀a w',Bp.wp Yq.prog (bodyPost Yq.prog Tryz.f14 fun e w'=>(e=.returned (.bool true)/\ak w w')\/Stop vk e w') a w'->K1 a w'){ga gb gc gd n0:Nat}(hn0:n0<=2199023255552){ver:Int}{sb:ByteArray}{J:List ItD}{uc ud:Wq}
  (a0:x.cell? ⟨ga,n0 * 5,none⟩=some (.int .i64 12)) (c0:x.cell? ⟨gc,n0 * 5,none⟩=some (.int .i64 12)) (a2:x.cell? ⟨ga,(n0+1) * 5+2,none⟩=some (.string sb)) (b2:x.cell? ⟨gb,n0 * 5+2,none⟩=some (.string sb)) (c1:x.cell? ⟨gc,(n0+1) * 5+1,none⟩=some (.int .i64 ver)) (d1:x.cell? ⟨gd,n0 * 5+1,none⟩=some (.int .i64 ver)) (c3:x.cell? ⟨gc,(n0+1) * 5+3,none⟩=some uc) (d3:x.cell? ⟨gd,n0 * 5+3,none⟩=some ud)
  (ic:n7 x uc J) (id':n7 x ud J) (lJ:J.length<=1000) (hl:ak w x):
  (fI Ds).wp Yq.prog (Exit.then K1 (bodyPost Yq.prog Tryz.f14 fun e w'=>(e=.returned (.bool true)/\ak w w')\/Stop vk e w')) ⟨#[u0,u1,u2,u3,u4,u5,u6,.int .i64 n0,u8,.slice (some ⟨ga,0,none⟩) (n0+2) (n0+2),.slice (some ⟨gb,0,none⟩) (n0+1) (n0+1),.slice (some ⟨gc,0,none⟩) (n0+2) (n0+2),.slice (some ⟨gd,0,none⟩) (n0+1) (n0+1),u13,u14,u15,u16,u17,u18,u19,u20,u21,u22,u23,u24,u25,u26,u27,u28,u29,u30,u31,u32,u33,u34,u35,u36,u37,u38,u39,u40,u41,u42,u43,u44,u45,u46,u47,u48,u49,u50,u51,u52,u53,u54,u55,u56,u57,u58,u59,u60,u61,u62,u63,u64,u65,u66,u67,u68,u69,u70,u71,u72,u73,u74,u75,u76,u77,u78,u79,u80,u81,u82,u83,u84,u85,u86,u87,u88,u89,u90,u91,u92,u93,u94,u95,u96,u97,u98,u99,u100,u101,u102,u103,u104,u105,u106,u107,u108,u109,u110,u111,u112,u113,u114,u115,u116,u117,u118,u119,u120,u121,u122,u123,u124,u125,u126,u127,u128,u129,u130,u131,u132,u133,u134,u135,u136,u137,u138,u139,u140,u141],[]⟩ x:=by
 have HS1:Hid (∀y,Below x.heap.size x y->Calls Yq.prog 22 #[uc,ud] y fun e w'=>∃v,e=.returned v/\v=.bool true/\Below y.heap.size y w'):=fun y hy=>(Do uc ud J y (ic.left (.below hy)) (id'.left (.below hy)) (by omega)).mono fun e w' h=>⟨_,h.1,rfl,h.2⟩
 have HL:Hid (∀y,Below x.heap.size x y->ak w y):=fun y hy=>hl.trans (.below hy)
 obtain ⟨pb,cb,rfl,-⟩:=ic.form;obtain ⟨pd,cd,rfl,-⟩:=id'.form;have HD:Hid (∀y:Wz,Below x.heap.size x y->Below x.heap.size x y.drew):=fun y hy=>⟨hy.os,hy.tape,hy.output,hy.size,hy.block⟩
 have HEN:Hid (∀ (args:Array Wq) (wx:Wz),(callFunc 22 args).run Yq.prog wx=.ok (.enter 22 args) wx):=fun args wx=>by go_simp
 have i1:(n0:Int)<n0+2:=by omega
 have i2:(n0:Int)+1<n0+2:=by omega
 have i3:(0:Int)<=n0+1:=by omega
 have i4:((n0:Int)+1).toNat=n0+1:=by omega
 have i5:IntKind.i64.wrap ((n0:Int)+1)=n0+1:=by simp [IntKind.wrap,IntKind.bits,IntKind.signed];omega
 have i6:(n0:Int)<n0+1:=by omega
 clear ic id' hl;dsimp only [Ds,aZ,Tryz.f14,cIn,fI,bB,Option.getD] at hK1 ⊢
 go_region_law (refine aY rfl 22 #[.tmp 90,.tmp 95] #[34,34] rfl #[.slice pb J.length cb,.slice pd J.length cd] (by first|(simp [Act.eval];done)|(simp [Act.eval,Act.put];done)|go_simp) (HEN.out _ _) _ (HS1.out _ (HD.out _ (bR _ _))) ?_;rintro v1 y1 ⟨rfl,k1⟩;have q1:Below x.heap.size x y1:=(HD.out _ (bR _ _)).trans k1;replace a0:=aj q1 a0;replace c0:=aj q1 c0;replace a2:=aj q1 a2;replace b2:=aj q1 b2;replace c1:=aj q1 c1;replace d1:=aj q1 d1)
 all_goals exact hK1 _ _ (Fu hn0 a0 c0 a2 b2 c1 d1 (HL.out _ q1))
end
theorem yN (b:ByteArray)(w:Wz):(Instr.build 31 #[(0,.int .i64 12),(6,.int .i64 (-1)),(2,.string b)]).run Yq.prog w=.ok (.agg #[.int .i64 12,.string ⟨#[]⟩,.string b,.string ⟨#[]⟩,.string ⟨#[]⟩,.int .i64 0,.int .i64 (-1)]) w:=by kernel_rfl
theorem tj (w:Wz):(Instr.build 31 #[(0,.int .i64 10)]).run Yq.prog w=.ok (.agg #[.int .i64 10,.string ⟨#[]⟩,.string ⟨#[]⟩,.string ⟨#[]⟩,.string ⟨#[]⟩,.int .i64 0,.int .i64 0]) w:=by kernel_rfl
theorem tl (a:List OpD)(d:Dk):gY a d ec=(d.st,d.L,qC d.st d.L):=by
 simp [gY,lm,stepA,ec,qC]
theorem tp {o:OpD}(h1:o.key.size<=maxLen)(h2:o.body.size<=maxLen):Sized [o]:=fun x hx=>by
 simp only [List.mem_singleton] at hx;subst hx;exact ⟨h1,h2⟩
theorem tq {o p:OpD}(h1:o.key.size<=maxLen/\o.body.size<=maxLen)(h2:p.key.size<=maxLen/\p.body.size<=maxLen):Sized [o,p]:=fun x hx=>by
 simp only [List.mem_cons,List.not_mem_nil,or_false] at hx;rcases hx with rfl|rfl
 .exact h1
 .exact h2
theorem qE {ops:List OpD}(h:Sized ops):Sized (cJ ops):=fun o ho=>h o (List.mem_filter.1 ho).1
theorem iX {a b:List OpD}(ha:Sized a)(hb:Sized b):Sized (a++b):=fun o ho=>(List.mem_append.1 ho).elim (ha o) (hb o)
theorem Fv (s:List OpD){b:ByteArray}(h:fj b=none):(cq (s++[eI b,cX])).al[s.length]?=some ⟨12,0,⟨#[]⟩,[],⟨#[]⟩⟩/\(cq (s++[eI b,cX])).al[s.length+1]?=some ⟨0,0,dK (cq s).st (cq s).L.tm,[],⟨#[]⟩⟩/\(cq (s++[eI b,ec])).al[s.length]?=some ⟨12,0,⟨#[]⟩,[],⟨#[]⟩⟩/\(cq (s++[eI b,ec])).al[s.length+1]?=some (qC (cq s).st (cq s).L):=by
 have e:gY s (cq s) (eI b)=((cq s).st,(cq s).L,⟨12,0,⟨#[]⟩,[],⟨#[]⟩⟩):=by rw [wK,cE,h]
 have h1:=qD s (eI b) cX;have h2:=qD s (eI b) ec;rw [mL,fP,e] at h1;rw [tl,fP,e] at h2;exact ⟨ti h1,Bm h1,ti h2,Bm h2⟩
theorem Fw (s:List OpD){b:ByteArray}{x:St×Int}(h:fj b=some x):(cq (s++[eI b,cX])).al[s.length]?=some ⟨0,0,⟨#[]⟩,[],⟨#[]⟩⟩/\(cq (s++[eI b,cX])).al[s.length+1]?=some ⟨0,0,b,[],⟨#[]⟩⟩:=by
 have e:gY s (cq s) (eI b)=(x.1,{(cq s).L with opened:=[],tm:=x.2},⟨0,0,⟨#[]⟩,[],⟨#[]⟩⟩):=by rw [wK,cE,h]
 have h1:=qD s (eI b) cX;rw [mL,fP,e] at h1;simp only [(o7 h).2] at h1;exact ⟨ti h1,Bm h1⟩
theorem Fx (s:List OpD):(cq (s++[cX])).al[s.length]?=some ⟨0,0,dK (cq s).st (cq s).L.tm,[],⟨#[]⟩⟩:=by
 have h1:=wL s cX;rw [mL] at h1;exact ti h1
theorem Dt (s:List OpD):(cq (s++[ec])).al[s.length]?=some (qC (cq s).st (cq s).L):=by
 have h1:=wL s ec;rw [tl] at h1;exact ti h1
theorem vo {G:Wz->Prop}{N:Nat}(hAns:Gk G N)(hN:N<2199023255300)(a:Option Addr)(n cap:Nat)(bytes:ByteArray)(ops:List OpD)(w:Wz)(h:eH w (.slice a n cap) ops)(hn:n * 88<=140737488351232)(hnN:n+8<=N)(ht:bytes.size<=maxLen)(hG:∀w',ak w w'->G w'):
  Calls Yq.prog 14 #[.slice a n cap,.string bytes] w fun e w'=>(e=.returned (.bool true)/\ak w w')\/Stop vk e w':=by
 have hnl:n=ops.length:=by
  obtain ⟨a',cap',he,_⟩:=h.form;cases he;rfl
 have HS:Hid (eH w (.slice a n cap) ops/\n=ops.length):=⟨h,hnl⟩;have HA:Hid (Gk G N/\N<2199023255300/\n+8<=N/\∀w',ak w w'->G w'):=⟨hAns,hN,hnN,hG⟩;have hsz0:(⟨#[]⟩:ByteArray).size<=maxLen:=Nat.zero_le _;have HZ:Hid (Sized [eI bytes,cX]/\Sized [cX]/\Sized [eI bytes,ec]/\Sized [ec]):=⟨tq ⟨hsz0,ht⟩ ⟨hsz0,hsz0⟩,tp hsz0 hsz0,tq ⟨hsz0,ht⟩ ⟨hsz0,hsz0⟩,tp hsz0 hsz0⟩;have hb1:=pi;have hb2:=yN;have hb3:=tj;clear h hnl hAns hG hN hnN ht hsz0;go_enter (Yq.nq Tryz.func14),Tryz.ntmps14;go_wp2_with fail
 refine (yM HA.out.1 (by have:=HA.out.2;omega) HA.out.2.1 w HA.out.2.2.2).mono ?_;rintro e w1 (⟨rfl,b1⟩|hst)
 rotate_left
 .obtain ⟨x,y,r,rfl,hst⟩:=hst;exact ⟨rfl,.inr ⟨x,y,r,rfl,hst⟩⟩
 have HB1:Hid (ak w w1):=b1;clear b1;have HW:=tc a n cap ops w1 (HS.out.1.left HB1.out) hn;have hlen:(cJ ops).length * 88<=140737488351232:=by have:=ln ops;have:=HS.out.2;omega
 have HSZ:Hid (Sized (cJ ops)):=qE HS.out.1.sized;have HKN:Hid ((cJ ops).length<=n):=by have:=ln ops;have:=HS.out.2;exact (by omega:(cJ ops).length<=n)
 obtain ⟨s,hs⟩:∃s,s=cJ ops:=⟨_,rfl⟩;rw [<-hs] at HW hlen HSZ HKN;clear hs;go_wp2_with fail
 refine HW.mono ?_;rintro e w2 ⟨v2,rfl,own2,b2⟩;obtain ⟨va2,vc2,rfl,-⟩:=aw own2;have bb2:ak w w2:=HB1.out.trans (.below b2);have HSC:Hid (eH w2 (.slice va2 s.length vc2) s/\ak w w2):=⟨fh own2 rfl HSZ.out (by omega),bb2⟩;clear own2 b2 bb2 HW;go_wp2_with fail
 obtain ⟨W2,hW2⟩:∃W2,W2=w2.alloc (.cells #[.int .i64 12,.string ⟨#[]⟩,.string bytes,.string ⟨#[]⟩,.string ⟨#[]⟩,.int .i64 0,.int .i64 (-1)] 31):=⟨_,rfl⟩;have hs2:W2.heap.size=w2.heap.size+1:=by rw [hW2];simp
 have HL2:Hid (ak w2 W2):=by rw [hW2];exact ak.refl.alloc _
 have HBX:Hid (∀W',ak W2 W'->∀j,W'.cell? ⟨w2.heap.size,j,none⟩=(#[.int .i64 12,.string ⟨#[]⟩,.string bytes,.string ⟨#[]⟩,.string ⟨#[]⟩,.int .i64 0,.int .i64 (-1)]:Array Wq)[j]?):=fun W' hl j=>by
  rw [cB (a:=⟨w2.heap.size,j,none⟩) (hl.block w2.heap.size (by omega)),hW2];exact gJ w2 _ _ j
 rw [<-hW2,<-hs2];clear hW2;have hm5:=nU W2 [eI bytes,cX] _ 31 rfl 2 rfl HZ.out.1 (by simp);refine (j5 _ s W2.heap.size 2 [eI bytes,cX] _ (HSC.out.1.left (HL2.out.alloc _)) hm5 (by omega) (by omega)).mono ?_;rintro e x5 ⟨v5,rfl,own5,y5⟩;obtain ⟨va5,vc5,rfl,-⟩:=aw own5;have l5:ak W2 x5:=(ak.refl.alloc _).trans (.below y5);have hsc5:eH x5 (.slice va5 (s.length+2) vc5) (s++[eI bytes,cX]):=fh own5 (by simp) (iX HSZ.out HZ.out.1) (by simp;omega);have hN5:(s++[eI bytes,cX]).length=s.length+2:=by simp
 have HR5:=j6 HA.out.1 _ _ x5 (fun w' hl=>HA.out.2.2.2 w' ((HSC.out.2.trans (HL2.out.trans l5)).trans hl)) hsc5 (by simp) (by rw [hN5];have:=HA.out.2.2.1;have:=HKN.out;omega) HA.out.2.1;rw [hN5] at HR5;clear own5 y5 hm5 hsc5;go_wp2_with fail
 refine HR5.mono ?_;clear HR5;rintro e x6 (⟨ga,rfl,hl5,hA5⟩|hst)
 rotate_left
 .obtain ⟨x,y,r,rfl,hst⟩:=hst;exact ⟨rfl,.inr ⟨x,y,r,rfl,hst⟩⟩
 have l6:ak W2 x6:=l5.trans hl5;clear hN5 l5 hl5;go_wp2_with fail
 have hm7:=nU x6 [cX] _ 31 rfl 1 rfl HZ.out.2.1 (by simp);refine (j5 _ s x6.heap.size 1 [cX] _ (HSC.out.1.left (HL2.out.trans (l6.alloc _))) hm7 (by omega) (by omega)).mono ?_;rintro e x7 ⟨v7,rfl,own7,y7⟩;obtain ⟨va7,vc7,rfl,-⟩:=aw own7;have l67:ak x6 x7:=(ak.refl.alloc _).trans (.below y7);have hsc7:eH x7 (.slice va7 (s.length+1) vc7) (s++[cX]):=fh own7 (by simp) (iX HSZ.out HZ.out.2.1) (by simp;omega);have hN7:(s++[cX]).length=s.length+1:=by simp
 have HR7:=j6 HA.out.1 _ _ x7 (fun w' hl=>HA.out.2.2.2 w' ((HSC.out.2.trans (HL2.out.trans (l6.trans l67))).trans hl)) hsc7 (by simp) (by rw [hN7];have:=HA.out.2.2.1;have:=HKN.out;omega) HA.out.2.1;rw [hN7] at HR7;clear own7 y7 hm7 hsc7;go_wp2_with fail
 refine HR7.mono ?_;clear HR7;rintro e x8 (⟨gb,rfl,hl7,hA7⟩|hst)
 rotate_left
 .obtain ⟨x,y,r,rfl,hst⟩:=hst;exact ⟨rfl,.inr ⟨x,y,r,rfl,hst⟩⟩
 have l8:ak W2 x8:=l6.trans (l67.trans hl7);have HAA:Hid (∀ (i:Nat) (x:iE),(cq (s++[eI bytes,cX])).al[i]?=some x->yL x8 ga i x):=fun i x hx=>(hA5 i x hx).left (l67.trans hl7)
 have HBB:Hid (∀ (i:Nat) (x:iE),(cq (s++[cX])).al[i]?=some x->yL x8 gb i x):=hA7;have HL8:Hid (ak W2 x8):=l8;have bx:∀j,x8.cell? ⟨w2.heap.size,j,none⟩=_:=HBX.out x8 l8;clear hN7 l67 hl7 hA5 hA7 l6 l8;cases hf:fj bytes with
 |some x=>
  obtain ⟨q0,q1⟩:=Fw s hf;obtain ⟨ua,a0,-⟩:=HAA.out _ _ q0;obtain ⟨ub,-,-,a2,-⟩:=HAA.out _ _ q1;have HFL:Hid (ak w x8):=HSC.out.2.trans (HL2.out.trans HL8.out);have i1:(s.length:Int)<s.length+2:=by omega
  have i2:(s.length:Int)+1<s.length+2:=by omega
  have i4:((s.length:Int)+1).toNat=s.length+1:=by omega
  clear q0 q1 hf HAA HBB bx;dsimp only at a0 a2;go_wp2;go_ret;exact .inl ⟨rfl,HFL.out⟩
 |none=>
  obtain ⟨q0,q1,q2,q3⟩:=Fv s hf;obtain ⟨ua,a0,-⟩:=HAA.out _ _ q0;have b0:=bx 0;have b1:=bx 1;have b2:=bx 2;have b3:=bx 3;have b4:=bx 4;have b5:=bx 5;have b6:=bx 6;simp only [gA,gZ,gS] at b0 b1 b2 b3 b4 b5 b6;have HQ:Hid (_/\_/\_/\_):=⟨q0,q1,q2,q3⟩;have i1:(s.length:Int)<s.length+2:=by omega
  clear q0 q1 q2 q3 hf bx;dsimp only at a0;go_wp2_with fail
  have hm9:=nU x8 [eI bytes,ec] _ 31 rfl 2 rfl HZ.out.2.2.1 (by simp);refine (j5 _ s x8.heap.size 2 [eI bytes,ec] _ (HSC.out.1.left (HL2.out.trans (HL8.out.alloc _))) hm9 (by omega) (by omega)).mono ?_;rintro e x9 ⟨v9,rfl,own9,y9⟩;obtain ⟨va9,vc9,rfl,-⟩:=aw own9;have l89:ak x8 x9:=(ak.refl.alloc _).trans (.below y9);have hsc9:eH x9 (.slice va9 (s.length+2) vc9) (s++[eI bytes,ec]):=fh own9 (by simp) (iX HSZ.out HZ.out.2.2.1) (by simp;omega);have hN9:(s++[eI bytes,ec]).length=s.length+2:=by simp
  have HR9:=j6 HA.out.1 _ _ x9 (fun w' hl=>HA.out.2.2.2 w' ((HSC.out.2.trans (HL2.out.trans (HL8.out.trans l89))).trans hl)) hsc9 (by simp) (by rw [hN9];have:=HA.out.2.2.1;have:=HKN.out;omega) HA.out.2.1;rw [hN9] at HR9;clear own9 y9 hm9 hsc9 b0 b1 b2 b3 b4 b5 b6;go_wp2_with fail
  refine HR9.mono ?_;clear HR9;rintro e x10 (⟨gc,rfl,hl9,hA9⟩|hst)
  rotate_left
  .obtain ⟨x,y,r,rfl,hst⟩:=hst;exact ⟨rfl,.inr ⟨x,y,r,rfl,hst⟩⟩
  have l10:ak x8 x10:=l89.trans hl9;clear hN9 l89 hl9;go_wp2_with fail
  have hm11:=nU x10 [ec] _ 31 rfl 1 rfl HZ.out.2.2.2 (by simp);refine (j5 _ s x10.heap.size 1 [ec] _ (HSC.out.1.left (HL2.out.trans (HL8.out.trans (l10.alloc _)))) hm11 (by omega) (by omega)).mono ?_;rintro e x11 ⟨v11,rfl,own11,y11⟩;obtain ⟨va11,vc11,rfl,-⟩:=aw own11;have l11:ak x10 x11:=(ak.refl.alloc _).trans (.below y11);have hsc11:eH x11 (.slice va11 (s.length+1) vc11) (s++[ec]):=fh own11 (by simp) (iX HSZ.out HZ.out.2.2.2) (by simp;omega);have hN11:(s++[ec]).length=s.length+1:=by simp
  have HR11:=j6 HA.out.1 _ _ x11 (fun w' hl=>HA.out.2.2.2 w' ((HSC.out.2.trans (HL2.out.trans (HL8.out.trans (l10.trans l11)))).trans hl)) hsc11 (by simp) (by rw [hN11];have:=HA.out.2.2.1;have:=HKN.out;omega) HA.out.2.1;rw [hN11] at HR11;clear own11 y11 hm11 hsc11;go_wp2_with fail
  refine HR11.mono ?_;clear HR11;rintro e x12 (⟨gd,rfl,hl11,hA11⟩|hst)
  rotate_left
  .obtain ⟨x,y,r,rfl,hst⟩:=hst;exact ⟨rfl,.inr ⟨x,y,r,rfl,hst⟩⟩
  have l12:ak x10 x12:=l11.trans hl11;have l812:ak x8 x12:=l10.trans l12;obtain ⟨va,p0,-⟩:=(HAA.out _ _ HQ.out.1).left l812;obtain ⟨vb,-,-,p2,-⟩:=(HAA.out _ _ HQ.out.2.1).left l812;obtain ⟨vc,-,-,p3,-⟩:=(HBB.out _ _ (Fx s)).left l812;obtain ⟨vd,p4,-⟩:=(hA9 _ _ HQ.out.2.2.1).left l12;obtain ⟨ve,-,p5,-,p6,-,p7⟩:=(hA9 _ _ HQ.out.2.2.2).left l12;obtain ⟨vf,-,p8,-,p9,-,p10⟩:=hA11 _ _ (Dt s);have HFL:Hid (ak w x12):=HSC.out.2.trans (HL2.out.trans (HL8.out.trans l812));have hop:(qC (cq s).st (cq s).L).items.length<=1000:=by
   have:=(wF (Qok:=vk) s fun o ho=>⟨DO o,(HSZ.out o ho).1⟩).l.len;simp only [qC,lM];omega
  have HIT:Hid (n7 x12 ve (qC (cq s).st (cq s).L).items/\n7 x12 vf (qC (cq s).st (cq s).L).items/\(qC (cq s).st (cq s).L).items.length<=1000):=⟨p7,p10,hop⟩;dsimp only at p0 p2 p3 p4 p5 p8;clear hN11 l11 hl11 hA9 hA11 l10 l12 l812 HAA HBB HQ p7 p10 hop a0;go_wp2_with fail
  rename_i K1 hK1;exact Gm hK1 (by omega) p0 p4 p2 p3 p5 p8 p6 p9 HIT.out.1 HIT.out.2.1 HIT.out.2.2 HFL.out
end
