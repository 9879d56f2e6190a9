/- A part. -/
import Derived.Test.YtnapepbdohidgaaGreatDoorQT16
set_option maxHeartbeats 4000000
set_option maxRecDepth 100000
open Go renaming World->Wz,Value->Wq
namespace Go.Proofs.Qw
open Tryz
section
open Go.Conc Go.ConcX Go.ConcX.Gen Go.RowKit
theorem p8:∀ (l:List ItD)(i:Nat)(hi:i<l.length),(ax l)[i * 3]?=some (.int .i64 l[i].kind)/\(ax l)[i * 3+1]?=some (.string l[i].text)/\(ax l)[i * 3+2]?=some (.int .i64 l[i].ver)
 | [],i,hi=>by simp at hi
 |z::l,0,hi=>by simp [ax]
 |z::l,i+1,hi=>by
  have ih:=p8 l i (by simpa using hi);have e:ax (z::l)=[.int .i64 z.kind,.string z.text,.int .i64 z.ver]++ax l:=by simp [ax]
  have a:∀j,(ax (z::l))[(i+1) * 3+j]?=(ax l)[i * 3+j]?:=fun j=>by
   rw [e,aR (by simp;omega)];congr 1;simp;omega
  simp only [List.getElem_cons_succ];exact ⟨(a 0).trans ih.1,(a 1).trans ih.2.1,(a 2).trans ih.2.2⟩
structure wk (w:Wz)(v:Wq)(its:List ItD):Prop where
 form:∃a cap,v=.slice a its.length cap/\(its≠[]->∃g,a=some ⟨g,0,none⟩/\∀j,j<its.length * 3->w.cell? ⟨g,j,none⟩=(ax its)[j]?)
theorem bG.its {A:Nat->Prop}{w:Wz}{v:Wq}{its:List ItD}(h:bG A w v its.length (ax its)):wk w v its:=by
 obtain ⟨a,cap,rfl,-,hx⟩:=h;refine ⟨a,cap,rfl,fun hne=>?_⟩;obtain ⟨g,rfl,-,-,hc⟩:=hx (by
  cases its with
  |nil=>exact absurd rfl hne
  |cons i r=>simp [ax])
 exact ⟨g,rfl,fun j b=>hc j (by rw [ol];exact b)⟩
theorem wk.left {w w':Wz}{v:Wq}{its:List ItD}(h:wk w v its)(hl:am w w'):wk w' v its:=by
 obtain ⟨a,cap,rfl,hx⟩:=h.form;refine ⟨a,cap,rfl,fun hne=>?_⟩;obtain ⟨g,rfl,hc⟩:=hx hne;refine ⟨g,rfl,fun j b=>?_⟩;have:=hc j b;rw [<-this];have hlt:j<(ax its).length:=by rw [ol];exact b
 rw [List.getElem?_eq_getElem hlt] at this;exact (hl.cell this).trans this.symm
@[simp] theorem Hz:Yq.prog.stoodInHeld 41=false:=by kernel_rfl
theorem Ef (v1 v2:Wq)(its:List ItD)(w:Wz)(h1:wk w v1 its)(h2:wk w v2 its)(hl:its.length<=100000):
  Calls Yq.prog 22 #[v1,v2] w fun e w'=>e=.returned (.bool true)/\Below w.heap.size w w':=by
 obtain ⟨a,c,rfl,hx⟩:=h1.form;obtain ⟨b,d,rfl,hy⟩:=h2.form;have HX:Hid (its≠[]->∃g,a=some ⟨g,0,none⟩/\∀j,j<its.length * 3->w.cell? ⟨g,j,none⟩=(ax its)[j]?):=hx;have HY:Hid (its≠[]->∃g,b=some ⟨g,0,none⟩/\∀j,j<its.length * 3->w.cell? ⟨g,j,none⟩=(ax its)[j]?):=hy;clear hx hy h1 h2;obtain ⟨n,hn⟩:∃n,its.length=n:=⟨_,rfl⟩;have HN:Hid (its.length=n):=hn;rw [hn] at hl ⊢;clear hn;go_enter (Yq.nq func22),ntmps22;go_wp2_with fail
 go_loopw [5] (fun s5 wr=>∃i:Nat,i<=n/\s5=.int .i64 i/\Below w.heap.size w wr) (fun s5 _=>n-(intOf s5).toNat)
 case atStart=>exact ⟨0,Nat.zero_le _,rfl,bR _ _⟩
 case round=>
  obtain ⟨i,hin,rfl,hb⟩:=hrel;by_cases hlt:i<n
  .have f:i<its.length:=by rw [HN.out];exact hlt
   have hne:its≠[]:=by intro e;rw [e] at f;simp at f
   obtain ⟨g,rfl,hc⟩:=HX.out hne;obtain ⟨g',rfl,hc'⟩:=HY.out hne;obtain ⟨e0,e1,e2⟩:=p8 its i f;have c0:=aj hb ((hc (i * 3) (by omega)).trans e0);have c1:=aj hb ((hc (i * 3+1) (by omega)).trans e1);have c2:=aj hb ((hc (i * 3+2) (by omega)).trans e2);have d0:=aj hb ((hc' (i * 3) (by omega)).trans e0);have d1:=aj hb ((hc' (i * 3+1) (by omega)).trans e1);have d2:=aj hb ((hc' (i * 3+2) (by omega)).trans e2);generalize its[i]=k at *;obtain ⟨kind,text,ver⟩:=k;simp only at c0 c1 c2 d0 d1 d2;have HB:Hid (Below w.heap.size w wr):=hb;clear hb hc hc' e0 e1 e2 HX HY;go_wp2
   go_region
   all_goals
    go_wp2;exact ⟨⟨i+1,by omega,by go_num,HB.out.drew⟩,by simp [intOf];omega⟩
  .have h:i=n:=by omega
   subst h;have HB:Hid (Below w.heap.size w wr):=hb;clear hb;go_wp2;go_ret;exact ⟨rfl,HB.out⟩
end
section
open Go.RowKit
theorem mg (l:Lst)(a:Int):∀ (its:List ItD)(k:Nat),(di l a k its).length<=its.length
 | [],_=>by simp [di]
 |i::r,k=>by
  have:=mg l a r (k+1);rw [di];split<;>simp only [lP,List.length_cons,lN]<;>omega
theorem xK {Qok:Qy->Prop}{L:Lg}{n:Nat}(h:oQ Qok L n)(a:ByteArray):(fD L a).2.1.length<=1000:=by
 unfold fD;split
 .simp
 .split
  .simp
  .split
   .simp
   .rename_i x hx;have hm:=h.ok x (List.mem_of_getElem? hx);have h2:=ng x.q (cu x.f x.q.p.data.toList) (gI _ _ _);have h3:=hm.2.1;exact lT (mg _ _ _ _) (by omega)
theorem EK (p x y:List UInt8):p++x<p++y↔x<y:=by
 induction p with
 |nil=>simp
 |cons a p ih=>simp [ih]
theorem up (n:Nat):∀ (f:List UInt8->List Ver)(bs:List UInt8),(bV n f bs).Pairwise fun a b=>a.1<b.1:=by
 induction n with
 |zero=>intro f bs;simp [bV]
 |succ n ih=>
  intro f bs;have hk:∀b,∀x∈bV n (fun k=>f (b::k)) (bs++[b]),∃r,x.1=bs++(b::r):=fun b x hx=>by
   obtain ⟨r,hr⟩:=(tH n _ _ x hx).1;exact ⟨r,by rw [<-hr];simp⟩
  rw [bV,List.pairwise_append];refine ⟨?_,?_,?_⟩
  .split<;>simp
  .have hs:=jO;generalize zU=l at hs;induction l with
   |nil=>simp
   |cons b l e=>
    obtain ⟨h1,h2⟩:=List.pairwise_cons.1 hs;rw [List.flatMap_cons,List.pairwise_append];refine ⟨ih _ _,e h2,fun x hx y hy=>?_⟩;obtain ⟨c,hc,hy⟩:=List.mem_flatMap.1 hy;obtain ⟨r,hr⟩:=hk b x hx;obtain ⟨r',d⟩:=hk c y hy;rw [hr,d,EK,List.cons_lt_cons_iff];exact .inl (h1 c hc)
  .intro x hx y hy;obtain ⟨c,-,hy⟩:=List.mem_flatMap.1 hy;obtain ⟨r,hr⟩:=hk c y hy;split at hx
   .simp at hx
   .simp only [List.mem_singleton] at hx;subst hx;rw [hr];have:=(EK bs [] (c::r)).2 (by simp);simpa using this
end
section
open Go.Conc Go.ConcX Go.ConcX.Gen Go.RowKit
def baL (l:List UInt8):ByteArray:=⟨l.toArray⟩
theorem fY (l:List UInt8):(baL l).size=l.length:=by simp [baL,ByteArray.size]
theorem Ha (s:ByteArray):baL s.data.toList=s:=ByteArray.ext (by simp [baL])
theorem xL (l:List UInt8)(n:Nat):tkB (baL l) n=baL (l.take n):=by
 refine ByteArray.ext (Array.toList_inj.1 ?_);simp only [tkB,ByteArray.data_extract,fY];simp [baL]
theorem xM (l:List UInt8)(n:Nat):rsB (baL l) n=baL (l.drop n):=by
 refine ByteArray.ext (Array.toList_inj.1 ?_);simp only [rsB,ByteArray.data_extract,fY];by_cases h:n<=l.length
 .rw [Nat.min_eq_left h];simp only [baL,List.extract_toArray,List.extract_eq_take_drop];rw [tO (by simp)]
 .rw [Nat.min_eq_right (by omega)];simp [baL];omega
def gO (n:Nat):List UInt8:=(List.range 8).map fun i=>UInt8.ofNat (n / 2 ^ (8 * (7-i)) % 256)
theorem kM (n:Nat):(gO n).length=8:=by simp [gO]
theorem Ca (n:Nat)(h:n<18446744073709551616):rF (gO n)=n:=by
 have e:gO n=[UInt8.ofNat (n / 2 ^ 56 % 256),UInt8.ofNat (n / 2 ^ 48 % 256),UInt8.ofNat (n / 2 ^ 40 % 256),UInt8.ofNat (n / 2 ^ 32 % 256),UInt8.ofNat (n / 2 ^ 24 % 256),UInt8.ofNat (n / 2 ^ 16 % 256),UInt8.ofNat (n / 2 ^ 8 % 256),UInt8.ofNat (n / 2 ^ 0 % 256)]:=rfl;rw [e];have h7:n / 2 ^ 56 % 256=n / 2 ^ 56:=by omega
 have h6:n / 2 ^ 48=n / 2 ^ 56 * 256+n / 2 ^ 48 % 256:=by omega
 have h5:n / 2 ^ 40=n / 2 ^ 48 * 256+n / 2 ^ 40 % 256:=by omega
 have h4:n / 2 ^ 32=n / 2 ^ 40 * 256+n / 2 ^ 32 % 256:=by omega
 have h3:n / 2 ^ 24=n / 2 ^ 32 * 256+n / 2 ^ 24 % 256:=by omega
 have h2:n / 2 ^ 16=n / 2 ^ 24 * 256+n / 2 ^ 16 % 256:=by omega
 have h1:n / 2 ^ 8=n / 2 ^ 16 * 256+n / 2 ^ 8 % 256:=by omega
 have h0:n=n / 2 ^ 8 * 256+n / 2 ^ 0 % 256:=by omega
 simp only [rF,List.foldl_cons,List.foldl_nil,UInt8.toNat_ofNat',Nat.mod_mod,Nat.zero_mul,zA];rw [h7,<-h6,<-h5,<-h4,<-h3,<-h2,<-h1,<-h0]
def fG (s:ByteArray):List UInt8:=UInt8.ofNat (s.size % 256)::s.data.toList
theorem Cb (s:ByteArray)(r:List UInt8)(h:s.size<256):txB (baL (fG s++r))=s/\txR (baL (fG s++r))=baL r:=by
 have e:txL (baL (fG s++r))=s.size:=by
  rw [txL,xL];simp only [baL,fG,List.cons_append,List.take_succ_cons,List.take_zero,rF,List.foldl_cons,List.foldl_nil,UInt8.toNat_ofNat'];omega
 have e2:rsB (baL (fG s++r)) 1=baL (s.data.toList++r):=by rw [xM];rfl
 have hl:s.size=s.data.toList.length:=by simp
 refine ⟨?_,?_⟩
 .rw [txB,e,e2,xL,hl,List.take_left,Ha]
 .rw [txR,e,e2,xM,hl,List.drop_left]
theorem xN (n:Nat)(r:List UInt8)(h:n<18446744073709551616):nm8 (baL (gO n++r))=n/\rsB (baL (gO n++r)) 8=baL r:=by
 refine ⟨?_,?_⟩
 .rw [nm8,xL,List.take_append_of_le_length (by rw [kM];omega),tO (by rw [kM];omega)];exact Ca n h
 .rw [xM,List.drop_append_of_le_length (by rw [kM];omega),List.drop_of_length_le (by rw [kM];omega)];rfl
theorem xO (b:UInt8)(r:List UInt8):txL (baL (b::r))=b.toNat/\rsB (baL (b::r)) 1=baL r:=by
 refine ⟨?_,by rw [xM];rfl⟩;rw [txL,xL];simp [baL,rF]
theorem oK {α:Type}{f:α->Int}:∀ {l m:List α},l.Pairwise (fun a b=>f a<f b)->m.Pairwise (fun a b=>f a<f b)->(∀x,x∈l↔x∈m)->l=m
 | [],[],_,_,_=>rfl
 | [],b::m,_,_,h=>by have:=(h b).2 (by simp);simp at this
 |a::l,[],_,_,h=>by have:=(h a).1 (by simp);simp at this
 |a::l,b::m,hl,hm,h=>by
  rw [List.pairwise_cons] at hl hm;have c:a=b:=by
   have h1:=(h a).1 (by simp);have h2:=(h b).2 (by simp);rcases List.mem_cons.1 h1 with h1|h1
   .exact h1
   .rcases List.mem_cons.1 h2 with h2|h2
    .exact h2.symm
    .have:=hm.1 a h1;have:=hl.1 b h2;omega
  subst c;congr 1;refine oK hl.2 hm.2 fun x=>?_
  have hx:=h x;simp only [List.mem_cons] at hx;constructor
  .intro hm1;rcases hx.1 (.inr hm1) with e|e
   .subst e;have:=hl.1 _ hm1;omega
   .exact e
  .intro hm1;rcases hx.2 (.inr hm1) with e|e
   .subst e;have:=hm.1 _ hm1;omega
   .exact e
def oR (e:ByteArray×Ver):List UInt8:=if e.2.mark then 2::(gO e.2.num.toNat++fG e.1) else 1::(gO e.2.num.toNat++(fG e.1++fG e.2.body))
structure Ge (e:ByteArray×Ver):Prop where
 key:aX e.1=true
 body:e.2.body.size<=100
 mark:e.2.mark=true->e.2.body=⟨#[]⟩
 num:1<=e.2.num/\e.2.num<=9223372036854775807
def oL (st:St)(e:ByteArray×Ver):St:=cW (lastSt st (e.2.num-1)) e.1 e.2.body e.2.mark
theorem xP {st:St}{tm:Int}{e:ByteArray×Ver}(h:Ge e)(hl:st.last<e.2.num)(hc:st.count<200)(r:List UInt8):cx st tm (baL (oR e++r))=some (oL st e,tm,baL r):=by
 obtain ⟨k,v⟩:=e;obtain ⟨h1,h2,h3,h4⟩:=h;simp only at h1 h2 h3 h4 hl;have hks:k.size<=40:=(of_decide_eq_true h1).2;have hn:v.num.toNat<18446744073709551616:=by omega
 have hp:kH st.last v.num.toNat=some (v.num-1):=by
  rw [kH,if_neg (by omega)];congr 1;omega
 have hf:jo (lastSt st (v.num-1))=false:=decide_eq_false (by simp only [lastSt];omega);cases hm:v.mark with
 |true=>
  have e1:oR (k,v)++r=2::(gO v.num.toNat++(fG k++r)):=by simp [oR,hm]
  obtain ⟨b,a2⟩:=xO 2 (gO v.num.toNat++(fG k++r));obtain ⟨c,b2⟩:=xN v.num.toNat (fG k++r) hn;obtain ⟨c1,c2⟩:=Cb k r (by omega);have a:txL (baL (2::(gO v.num.toNat++(fG k++r))))=2:=b;have hd:dropR (lastSt st (v.num-1)) k=(cW (lastSt st (v.num-1)) k ⟨#[]⟩ true,(lastSt st (v.num-1)).last+1,0):=by simp [dropR,h1,hf]
  rw [e1,cx,if_neg (by omega),if_pos a,a2,c,hp,b2,c1,c2];simp only [hd,if_true,oL,hm,h3 hm]
 |false=>
  have e1:oR (k,v)++r=1::(gO v.num.toNat++(fG k++(fG v.body++r))):=by simp [oR,hm]
  obtain ⟨b,a2⟩:=xO 1 (gO v.num.toNat++(fG k++(fG v.body++r)));obtain ⟨c,b2⟩:=xN v.num.toNat (fG k++(fG v.body++r)) hn;obtain ⟨c1,c2⟩:=Cb k (fG v.body++r) (by omega);obtain ⟨d1,d2⟩:=Cb v.body r (by omega);have a:txL (baL (1::(gO v.num.toNat++(fG k++(fG v.body++r)))))=1:=b;have hd:jq (lastSt st (v.num-1)) k v.body=(cW (lastSt st (v.num-1)) k v.body false,(lastSt st (v.num-1)).last+1,0):=by
   simp [jq,h1,hf];omega
  rw [e1,cx,if_pos a,a2,c,hp,b2,c1,c2,d1,d2];simp only [hd,if_true,oL,hm]
theorem p9 (tm:Int)(r:List UInt8):∀ (E:List (ByteArray×Ver))(st:St)(n:Nat),(∀e∈E,Ge e/\st.last<e.2.num)->E.Pairwise (fun a b=>a.2.num<b.2.num)->st.count+E.length<=200->ep (n+E.length) st tm (baL (E.flatMap oR++r))=ep n (E.foldl oL st) tm (baL r)
 | [],st,n,_,_,_=>rfl
 |e::E,st,n,h,hp,hc=>by
  rw [List.pairwise_cons] at hp;rw [List.length_cons] at hc ⊢;have h0:=h e (by simp);have e1:(e::E).flatMap oR++r=oR e++(E.flatMap oR++r):=by simp
  have hz:¬(baL (oR e++(E.flatMap oR++r))).size=0:=by
   rw [fY,oR];split<;>simp
  rw [<-Nat.add_assoc,ep,e1,if_neg hz,xP h0.1 h0.2 (by omega)];have hl:(oL st e).last=e.2.num:=by simp [oL,cW,lastSt]
  have c:(oL st e).count=st.count+1:=by simp [oL,cW,lastSt]
  exact p9 tm r E (oL st e) n (fun x hx=>⟨(h x (by simp [hx])).1,by rw [hl];exact hp.1 x hx⟩) hp.2 (by rw [c];omega)
theorem uq (st:St)(t0:Int)(a tm:Nat)(n:Nat)(h1:st.last<=a)(h2:a<=9223372036854775807)(h3:tm<18446744073709551616):ep (n+3) st t0 (baL (3::(gO (a+1)++(4::gO tm))))=some (⟨st.f,st.count,a⟩,(tm:Int)):=by
 obtain ⟨c,a2⟩:=xO 3 (gO (a+1)++(4::gO tm));obtain ⟨d,b2⟩:=xN (a+1) (4::gO tm) (by omega);obtain ⟨c1,c2⟩:=xO 4 (gO tm);obtain ⟨d1,d2⟩:=xN tm [] h3;rw [List.append_nil] at d1 d2;have hp:kH st.last (a+1)=some (a:Int):=by
  rw [kH,if_neg (by omega)];congr 1;omega
 have b:txL (baL (3::(gO (a+1)++(4::gO tm))))=3:=c;have c1':txL (baL (4::gO tm))=4:=c1;have p1:cx st t0 (baL (3::(gO (a+1)++(4::gO tm))))=some (lastSt st a,t0,baL (4::gO tm)):=by
  rw [cx,if_neg (by omega),if_neg (by omega),if_pos b,a2,d,hp,b2]
 have p2:cx (lastSt st a) t0 (baL (4::gO tm))=some (lastSt st a,(tm:Int),baL []):=by
  rw [cx,if_neg (by omega),if_neg (by omega),if_neg (by omega),if_pos c1',c2,d1,d2]
 rw [show n+3=(n+2)+1 from rfl,ep,if_neg (by rw [fY];simp),p1];simp only;rw [show n+2=(n+1)+1 from rfl,ep,if_neg (by rw [fY];simp),p2];simp only;rw [ep,if_pos (by rw [fY];rfl)];rfl
theorem Cc (k:List UInt8):∀ (E:List (ByteArray×Ver))(st:St),(E.foldl oL st).f k=st.f k++(E.filter fun e=>decide (e.1.data.toList=k)).map (·.2)
 | [],st=>by simp
 |e::E,st=>by
  rw [List.foldl_cons,Cc k E];by_cases h:e.1.data.toList=k
  .subst h;have:(oL st e).f e.1.data.toList=st.f e.1.data.toList++[e.2]:=by simp [oL,cW,lastSt,upd]
   rw [this,List.filter_cons_of_pos (by simp)];simp
  .have:(oL st e).f k=st.f k:=by
    simp only [oL,cW,lastSt,upd];rw [if_neg (fun x=>h x.symm)]
   rw [this,List.filter_cons_of_neg (by simpa using h)]
theorem oM:∀ (E:List (ByteArray×Ver))(st:St),(E.foldl oL st).count=st.count+E.length
 | [],st=>by simp
 |e::E,st=>by
  rw [List.foldl_cons,oM E];simp [oL,cW,lastSt];omega
theorem qg (L:Int):∀ (E:List (ByteArray×Ver))(st:St),st.last<=L->(∀e∈E,e.2.num<=L)->(E.foldl oL st).last<=L
 | [],st,h,_=>h
 |e::E,st,h,hE=>by
  rw [List.foldl_cons];exact qg L E _ (by have:=hE e (by simp);simp [oL,cW,lastSt];omega) fun x hx=>hE x (by simp [hx])
theorem Cd (n:Nat):∀ (f:List UInt8->List Ver)(bs k:List UInt8),k.length<n->f k≠[]->(bs++k,f k)∈bV n f bs:=by
 induction n with
 |zero=>intro f bs k hk;omega
 |succ n ih=>
  intro f bs k hk hf;rw [bV,List.mem_append];cases k with
  |nil=>left;simp [hf]
  |cons b k=>
   right
   refine List.mem_flatMap.2 ⟨b,nb b,?_⟩;have:=ih (fun k=>f (b::k)) (bs++[b]) k (by simpa using hk) hf;simpa using this
def toB (v:Wq):UInt8:=UInt8.ofNat (intOf v).toNat
theorem Gg (s:ByteArray):(Lib.strCells s).map toB=s.data.toList:=by
 have:(toB∘fun b:UInt8=>Value.int .u8 (b.toNat:Int))=id:=by
  funext b;simp [toB,intOf]
 rw [Lib.strCells,List.map_map,this,List.map_id]
theorem xQ (s:ByteArray):(mV s).map toB=fG s:=by
 rw [mV,List.map_append,Gg];have:((s.size:Int) % 256).toNat=s.size % 256:=by omega
 simp [toB,intOf,fG,this]
theorem wl (n:Nat):(num8 (n:Int) 8).map toB=gO n:=by
 rw [num8,gO,List.map_map];refine List.map_congr_left fun i _=>?_
 simp only [Function.comp,toB,intOf];congr 1
theorem Gh {e:ByteArray×Ver}(h:0<=e.2.num):(zw e.1 e.2).map toB=oR e:=by
 obtain ⟨n,hn⟩:∃n:Nat,e.2.num=n:=⟨e.2.num.toNat,by omega⟩;have h1:=wl n;unfold zw oR;rw [hn];split
 .simp [h1,xQ,toB,intOf]
 .simp [h1,xQ,toB,intOf]
theorem xR:∀ (E:List (ByteArray×Ver)),(∀e∈E,0<=e.2.num)->(fe E).map toB=E.flatMap oR
 | [],_=>rfl
 |e::E,h=>by
  have:=xR E fun x hx=>h x (by simp [hx])
  simp only [fe,List.flatMap_cons,List.map_append] at this ⊢;rw [this,Gh (h e (by simp))]
theorem Eg {st:St}(a tm:Nat)(hl:st.last=a)(h:∀e∈bg st,0<=e.2.num):ci st tm=baL ((bg st).flatMap oR++3::(gO (a+1)++4::gO tm)):=by
 have e1:ci st tm=baL ((fe (bg st)++([Value.int .u8 3]++num8 (st.last+1) 8++([Value.int .u8 4]++num8 tm 8))).map toB):=rfl;have e2:(num8 ((a:Int)+1) 8).map toB=gO (a+1):=wl (a+1);rw [e1,hl];simp only [List.map_append,xR _ h,e2,wl];rfl
structure jX (st:St):Prop where
 nil:st.f []=[]
 uniq:∀k k' v v',v∈st.f k->v'∈st.f k'->v.num=v'.num->k=k'
 mark:∀k,∀v∈st.f k,v.mark=true->v.body=⟨#[]⟩
theorem Hb:jX st0:=⟨rfl,fun _ _ _ _ h=>by simp [st0] at h,fun _ _ h=>by simp [st0] at h⟩
theorem jX.lastSt {st:St}(h:jX st)(l:Int):jX (lastSt st l):=⟨h.nil,h.uniq,h.mark⟩
theorem oN {st:St}{s:Nat}(a:Inv st s){k:List UInt8}{v:Ver}(hv:v∈st.f k):1<=v.num/\v.num<=st.last:=by
 obtain ⟨i,hi,e⟩:=gM hv;have:=a.bounds k i hi;rw [gg hi,e] at this;exact this
theorem jX.add {st:St}{s:Nat}(h:jX st)(c:Inv st s)(key body:ByteArray)(mark:Bool)(hk:aX key=true)(hm:mark=true->body=⟨#[]⟩):jX (cW st key body mark):=by
 have hks:=(of_decide_eq_true hk).1;have a:∀k v,v∈(cW st key body mark).f k->v∈st.f k\/(k=key.data.toList/\v=⟨st.last+1,body,mark⟩):=fun k v hv=>by
  simp only [cW,upd] at hv;split at hv
  .rename_i e;subst e;simpa using hv
  .exact .inl hv
 refine ⟨?_,fun k k' v v' hv b e=>?_,fun k v hv hmk=>?_⟩
 .simp only [cW,upd];rw [if_neg fun e=>?_]
  .exact h.nil
  .have:key.data.toList.length=0:=by rw [<-e];rfl
   have:key.size=0:=by simpa using this
   omega
 .rcases a k v hv with h1|⟨h1,h2⟩<;>rcases a k' v' b with h3|⟨h3,h4⟩
  .exact h.uniq k k' v v' h1 h3 e
  .have:=(oN c h1).2;rw [h4] at e;simp only at e;omega
  .have:=(oN c h3).2;rw [h2] at e;simp only at e;omega
  .rw [h1,h3]
 .rcases a k v hv with h1|⟨h1,h2⟩
  .exact h.mark k v h1 hmk
  .rw [h2] at hmk ⊢;exact hm hmk
theorem jX.drop {st:St}(h:jX st)(key:ByteArray)(r:Nat):jX (cH st key r):=by
 have a:∀k v,v∈(cH st key r).f k->v∈st.f k:=fun k v hv=>by
  simp only [cH,upd] at hv;split at hv
  .rename_i e;subst e;rcases List.mem_append.1 hv with hv|hv
   .exact List.mem_of_mem_take hv
   .exact List.mem_of_mem_drop hv
  .exact hv
 refine ⟨?_,fun k k' v v' hv b=>h.uniq k k' v v' (a k v hv) (a k' v' b),fun k v hv=>h.mark k v (a k v hv)⟩;refine List.eq_nil_iff_forall_not_mem.2 fun v hv=>?_
 have:=a [] v hv;rw [h.nil] at this;simp at this
theorem jX.step {st:St}{s:Nat}(h:jX st)(a:Inv st s)(o:OpD):jX (bf st o).1:=by
 unfold bf;simp only
 repeat' split
 all_goals first
  |exact h
  |exact h.add a _ _ _ (by simpa using ‹¬aX o.key=false›) (by intro h;first|rfl|cases h)
  |exact h.drop _ _
theorem jX.put {st:St}{s:Nat}(h:jX st)(a:Inv st s)(key body:ByteArray):jX (jq st key body).1:=by
 have:=h.step a ⟨1,key,body,⟨#[]⟩,⟨#[]⟩,0,0⟩
 rwa [jg st ⟨1,key,body,⟨#[]⟩,⟨#[]⟩,0,0⟩ rfl] at this
theorem jX.dropR {st:St}{s:Nat}(h:jX st)(a:Inv st s)(key:ByteArray):jX (dropR st key).1:=by
 have:=h.step a ⟨4,key,⟨#[]⟩,⟨#[]⟩,⟨#[]⟩,0,0⟩
 rwa [ik st ⟨4,key,⟨#[]⟩,⟨#[]⟩,⟨#[]⟩,0,0⟩ rfl] at this
theorem jm {st:St}(a:dY st){e:ByteArray×Ver}:e∈bg st↔e.2∈st.f e.1.data.toList:=by
 rw [bg,(gK _).mem_iff,cg,List.mem_flatMap];constructor
 .rintro ⟨x,hx,he⟩;obtain ⟨v,hv,rfl⟩:=List.mem_map.1 he;obtain ⟨k,h1,h2⟩:=iY _ _ _ x hx;simp only [List.nil_append] at h1 h2;rw [h2] at hv;rw [h1];simpa using hv
 .intro h;have hlen:e.1.data.toList.length<41:=by
   refine Classical.byContradiction fun hn=>?_
   rw [a.long _ (by omega)] at h;simp at h
  refine ⟨(e.1.data.toList,st.f e.1.data.toList),?_,List.mem_map.2 ⟨e.2,h,?_⟩⟩
  .have:=Cd 41 st.f [] e.1.data.toList hlen (fun h0=>by rw [h0] at h;simp at h);simpa [cu] using this
  .simp
theorem ur {st:St}{s:Nat}(q:Inv st s)(hS:jX st):(bg st).Pairwise fun a b=>a.2.num<b.2.num:=by
 letI:=D7
 have hle:(bg st).Pairwise fun a b=>a.2.num<=b.2.num:=by
  refine List.pairwise_iff_getElem.2 fun i j hi d c=>?_
  have h:=(oD (cg (cu st.f []))).2 i j (Nat.zero_le _) c (by rw [<-eI];exact d);rw [ltE,decide_eq_false_iff_not] at h;have o:(bg st).toArray[i]! =(bg st)[i]:=by simp [hi]
  have p:(bg st).toArray[j]! =(bg st)[j]:=by simp [d]
  have n:¬(bg st).toArray[j]!.2.num<(bg st).toArray[i]!.2.num:=h;rw [o,p] at n;omega
 have hne:(bg st).Pairwise fun a b=>a.2.num≠b.2.num:=by
  refine ((gK _).pairwise_iff (fun h e=>h e.symm)).2 ?_;rw [cg,List.pairwise_flatMap];refine ⟨fun x hx=>?_,?_⟩
  .obtain ⟨k,-,h2⟩:=iY _ _ _ x hx;rw [List.pairwise_map,h2];refine List.pairwise_iff_getElem.2 fun i j hi d c=>?_
   have:=q.sorted _ i j c d;rw [gg hi,gg d] at this;exact fun e=>by simp only at e;omega
  .refine List.Pairwise.imp_of_mem (fun {x y} hx hy m a ha b hb e=>?_) (up 41 st.f []);obtain ⟨v,hv,rfl⟩:=List.mem_map.1 ha;obtain ⟨v',l,rfl⟩:=List.mem_map.1 hb;obtain ⟨k,h1,h2⟩:=iY _ _ _ x hx;obtain ⟨k',h3,h4⟩:=iY _ _ _ y hy;rw [h2] at hv;rw [h4] at l;have:=hS.uniq k k' v v' hv l e;rw [h1,h3,this] at m;exact absurd m (List.lt_irrefl _)
 exact (hle.and hne).imp fun h=>by omega
theorem Cf {st:St}{s:Nat}(c:Inv st s)(b:dY st)(hS:jX st)(tm:Nat)(h:tm<18446744073709551616):eJ (ci st tm)=some (st,(tm:Int)):=by
 obtain ⟨a,hl⟩:∃n:Nat,st.last=n:=⟨st.last.toNat,by have:=c.last0;omega⟩;have hlS:=c.lastS;have hb:∀e∈bg st,1<=e.2.num/\e.2.num<=st.last:=fun e he=>oN c ((jm b).1 he)
 have hlen:((bg st).length:Int)=st.count:=by
  have h3:gt (cu st.f [])=tot 41 st.f:=rfl;rw [bg,eI,iX,h3];exact b.cnt
 have hle:=b.le;have hp:=ur c hS;have hE:∀e∈bg st,Ge e/\st0.last<e.2.num:=fun e he=>by
  have h1:=(jm b).1 he;have h2:=hb e he;refine ⟨⟨decide_eq_true ⟨?_,(fo he).1⟩,b.body _ _ h1,hS.mark _ _ h1,by omega⟩,by simp only [st0];omega⟩;refine Nat.pos_of_ne_zero fun h0=>?_
  have:e.1.data.toList=[]:=List.eq_nil_of_length_eq_zero (by simpa using h0);rw [this,hS.nil] at h1;simp at h1
 have e1:=Eg a tm hl fun e he=>by have:=hb e he;omega
 have hst:(⟨((bg st).foldl oL st0).f,((bg st).foldl oL st0).count,(a:Int)⟩:St)=st:=by
  have hf:((bg st).foldl oL st0).f=st.f:=by
   funext k;rw [Cc];refine oK (f:=fun v:Ver=>v.num) ?_ ?_ fun v=>?_
   .simp only [st0,List.nil_append];exact List.pairwise_map.2 (hp.filter _)
   .refine List.pairwise_iff_getElem.2 fun i j hi l d=>?_
    have:=c.sorted k i j d l
    rwa [gg hi,gg l] at this
   .simp only [st0,List.nil_append,List.mem_map,List.mem_filter];constructor
    .rintro ⟨e,⟨he,hk⟩,rfl⟩;have hk:=of_decide_eq_true hk;rw [<-hk];exact (jm b).1 he
    .intro hv;exact ⟨(⟨k.toArray⟩,v),⟨(jm b).2 (by simpa using hv),by simp⟩,rfl⟩
  have hc:((bg st).foldl oL st0).count=st.count:=by rw [oM];simp only [st0];omega
  rw [hf,hc,<-hl]
 have o:ep ((ci st tm).size+1) st0 0 (ci st tm)=some (st,(tm:Int)):=by
  have hsz:(bg st).length+3<=(ci st tm).size+1:=by
   have hn:∀E:List (ByteArray×Ver),E.length<=(E.flatMap oR).length:=fun E=>by
    induction E with
    |nil=>simp
    |cons e E ih=>
     have:1<=(oR e).length:=by unfold oR;split<;>simp
     simp only [List.flatMap_cons,lP,List.length_cons];omega
   have:=hn (bg st);rw [e1,fY];simp only [lP,List.length_cons,kM];omega
  obtain ⟨m,hm⟩:∃m,(ci st tm).size+1=m+3+(bg st).length:=⟨(ci st tm).size+1-3-(bg st).length,by omega⟩;rw [hm,e1,p9 0 _ _ st0 (m+3) hE hp (by simp only [st0];omega),uq _ 0 a tm m ?_ (by omega) h,hst];rw [<-hl];exact qg st.last _ _ (by simp only [st0];omega) fun e he=>(hb e he).2
 unfold eJ;rw [o];simp
def svB:ByteArray:=⟨#[98]⟩
def svX:ByteArray:=⟨#[120]⟩
def zK:St:=cW st0 svB svX false
theorem Gi:cu zK.f []=[([98],[⟨1,svX,false⟩])]:=by
 have hf:∀k,zK.f k=if k=[98] then [⟨1,svX,false⟩] else []:=fun k=>rfl
 have h2:bV 40 (fun k=>zK.f (98::k)) [98]=[([98],[⟨1,svX,false⟩])]:=by
  rw [bV,List.flatMap_eq_nil_iff.2 fun b _=>iP _ _ _ fun k=>by simp [hf]];simp [hf]
 have h1:∀b:UInt8,bV 40 (fun k=>zK.f (b::k)) ([]++[b])=if b=98 then [([98],[⟨1,svX,false⟩])] else []:=fun b=>by
  by_cases hb:b=98
  .subst hb;exact h2
  .rw [if_neg hb];exact iP _ _ _ fun k=>by simp [hf,hb]
 show bV 41 zK.f []=_;rw [bV,funext h1];kernel_rfl
theorem Gj:bg zK=[(svB,⟨1,svX,false⟩)]:=by
 rw [bg,Gi];exact List.perm_singleton.1 (gK _)
theorem Gk:ci zK 0=baL (oR (svB,⟨1,svX,false⟩)++3::(gO (1+1)++4::gO 0)):=by
 have h:∀E,E=[(svB,(⟨1,svX,false⟩:Ver))]->bytesOf (fe E++([Value.int .u8 3]++num8 (0+1+1) 8++([Value.int .u8 4]++num8 0 8)))=baL (oR (svB,⟨1,svX,false⟩)++3::(gO (1+1)++4::gO 0)):=fun E h=>by
  subst h;kernel_rfl
 exact h _ Gj
theorem Gl:eJ (ci zK 0)=some (zK,0):=by
 have e5:(baL (oR (svB,⟨1,svX,false⟩)++3::(gO (1+1)++4::gO 0))).size=31:=by rw [fY];kernel_rfl
 have e3:ep ((ci zK 0).size+1) st0 0 (ci zK 0)=some (zK,0):=by
  rw [Gk,e5];have hp:=xP (st:=st0) (tm:=0) (e:=(svB,⟨1,svX,false⟩)) ⟨by decide,by decide,(fun h=>by cases h),by decide⟩ (by decide) (by decide) (3::(gO (1+1)++4::gO 0));rw [ep,if_neg (by rw [e5];decide),hp];exact uq (oL st0 (svB,⟨1,svX,false⟩)) 0 1 0 28 (by decide) (by decide) (by decide)
 have h:∀ (b:ByteArray) (x:St×Int),ep (b.size+1) st0 0 b=some x->ci x.1 x.2=b->eJ b=some x:=fun b x h1 h2=>by
  rw [eJ,h1];simp [h2]
 exact h _ _ e3 rfl
theorem zL {st:St}{tm:Int}{s:ByteArray}{x:St×Int×ByteArray}(a:Inv st 0)(hS:jX st)(ht:0<=tm/\tm<18446744073709551616)(h:cx st tm s=some x):jX x.1/\0<=x.2.1/\x.2.1<18446744073709551616:=by
 have hl:∀l,kH st.last (nm8 (rsB s 1))=some l->Inv (lastSt st l) 0/\jX (lastSt st l):=fun l e=>⟨a.lastSt (eA e).1 (eA e).2,hS.lastSt l⟩
 unfold cx at h;split at h
 .split at h
  .exact absurd h (by simp)
  .rename_i l e;split at h
   .rw [<-oJ h];dsimp only;exact ⟨(hl l e).2.put (hl l e).1 _ _,ht⟩
   .exact absurd h (by simp)
 .split at h
  .split at h
   .exact absurd h (by simp)
   .rename_i l e;split at h
    .rw [<-oJ h];dsimp only;exact ⟨(hl l e).2.dropR (hl l e).1 _,ht⟩
    .exact absurd h (by simp)
  .split at h
   .split at h
    .exact absurd h (by simp)
    .rename_i l e;rw [<-oJ h];dsimp only;exact ⟨(hl l e).2,ht⟩
   .split at h
    .rw [<-oJ h];dsimp only;have:=EG (rsB s 1);exact ⟨hS,by omega⟩
    .exact absurd h (by simp)
theorem qh:∀ (n:Nat)(st:St)(tm:Int)(s:ByteArray)(x:St×Int),Inv st 0->dY st->jX st->(0<=tm/\tm<18446744073709551616)->ep n st tm s=some x->jX x.1/\0<=x.2/\x.2<18446744073709551616
 | 0,_,_,_,_,_,_,_,_,h=>by simp [ep] at h
 |n+1,st,tm,s,x,hI,hT,hS,ht,h=>by
  unfold ep at h;split at h
  .cases h;exact ⟨hS,ht⟩
  .split at h
   .exact absurd h (by simp)
   .rename_i y e;have h1:=uf hI hT e;have h2:=zL hI hS ht e;exact qh n _ _ _ x h1.1 h1.2 h2.1 h2.2 h
theorem qi {b:ByteArray}{x:St×Int}(h:eJ b=some x):jX x.1/\0<=x.2/\x.2<18446744073709551616:=
 qh _ _ _ _ x inv0 Dz Hb (by decide) (pV h).1
structure Gm (d:Dk):Prop where
 s:jX d.st
 tm:0<=d.L.tm/\d.L.tm<18446744073709551616
 its:∀a∈d.al,a.items.length<=1000
theorem rB {st:St}(a:dY st)(L:Lg)(q:Qy)(n:Int):(eP L st.f q n).2.1.length<=1000:=by
 have h1:((gp L st.f q n).page 1).length<=1000:=by
  have h2:=ng q (cu st.f q.p.data.toList) (gI _ _ _);have h3:=a.sum q.p.data.toList;exact lT (mg _ _ _ _) (by show (ee q (cu st.f q.p.data.toList)).length<=1000;omega)
 unfold eP
 repeat' split
 all_goals first|exact Nat.zero_le _|exact h1
theorem Cg {Qok:Qy->Prop}{st:St}{L:Lg}{s:Nat}(c:dY st)(b:oQ Qok L s)(a:List ByteArray)(o:OpD):(stepA st L a o).2.2.items.length<=1000:=by
 have hl:=b.len;unfold stepA;split
 .exact rB c _ _ _
 .split
  .exact rB c _ _ _
  .split
   .exact xK b _
   .split
    .exact Nat.zero_le _
    .split
     .simp only [lM];omega
     .split<;>exact Nat.zero_le _
theorem Gn {Qok:Qy->Prop}(ops:List OpD)(hk:∀o∈ops,oG Qok o/\o.key.size<=maxLen):∀a∈(bP ops).al,a.items.length<=1000:=by
 have:∀n,n<=ops.length->∀a∈(bP (ops.take n)).al,a.items.length<=1000:=fun n=>by
  induction n with
  |zero=>intro _ a ha;simp [bP,jt,dk0] at ha
  |succ n ih=>
   intro hn a ha;rw [tS (by omega),dW] at ha;simp only [gL,List.mem_append,List.mem_singleton] at ha;rcases ha with ha|rfl
   .exact ih (by omega) a ha
   .have hE:=kJ (Qok:=Qok) (ops.take n) fun o ho=>hk o (List.mem_of_mem_take ho)
    unfold iz kI;split
    .generalize cQ _ _ _ _=b;unfold cF;cases eJ b<;>exact Nat.zero_le _
    .exact Cg hE.t hE.l _ _
 have:=this ops.length (lR _)
 rwa [List.take_length] at this
theorem Gm.stepA {Qok:Qy->Prop}{st:St}{L:Lg}{s:Nat}(d:Inv st s)(c:dY st)(b:oQ Qok L s)(hS:jX st)(ht:0<=L.tm/\L.tm<18446744073709551616)(a:List ByteArray)(o:OpD):jX (stepA st L a o).1/\(0<=(stepA st L a o).2.1.tm/\(stepA st L a o).2.1.tm<18446744073709551616)/\(stepA st L a o).2.2.items.length<=1000:=by
 have hl:=b.len;unfold Go.Proofs.Qw.stepA;split
 .exact ⟨hS,by rw [mf];exact ht,rB c _ _ _⟩
 .split
  .exact ⟨hS,by rw [mf];exact ht,rB c _ _ _⟩
  .split
   .exact ⟨hS,by rw [xE];exact ht,xK b _⟩
   .split
    .refine ⟨hS,?_,Nat.zero_le _⟩;show 0<=(cX L o.n).1.tm/\(cX L o.n).1.tm<18446744073709551616;unfold cX;split
     .exact ht
     .simp only [jr,IntKind.wrap,IntKind.bits,IntKind.signed];simp;omega
    .split
     .exact ⟨hS,ht,by simp only [lM];omega⟩
     .split
      .exact ⟨hS,ht,Nat.zero_le _⟩
      .exact ⟨hS.step d o,ht,Nat.zero_le _⟩
theorem Gm.step {Qok:Qy->Prop}{d:Dk}{s:Nat}{a:List OpD}(h:Gm d)(hE:EI Qok d s)(o:OpD):Gm (gL a d o):=by
 have hr:jX (iz a d o).1/\(0<=(iz a d o).2.1.tm/\(iz a d o).2.1.tm<18446744073709551616)/\(iz a d o).2.2.items.length<=1000:=by
  unfold iz kI;split
  .generalize cQ _ _ _ _=b;unfold cF;cases e:eJ b with
   |none=>exact ⟨h.s,h.tm,Nat.zero_le _⟩
   |some x=>exact ⟨(qi e).1,(qi e).2,Nat.zero_le _⟩
  .exact Gm.stepA hE.i hE.t hE.l h.s h.tm _ o
 refine ⟨hr.1,hr.2.1,fun x hx=>?_⟩;simp only [gL,List.mem_append,List.mem_singleton] at hx;rcases hx with hx|rfl
 .exact h.its x hx
 .exact hr.2.2
theorem Eh {Qok:Qy->Prop}(ops:List OpD)(hk:∀o∈ops,oG Qok o/\o.key.size<=maxLen):Gm (bP ops):=by
 have:∀n,n<=ops.length->Gm (bP (ops.take n)):=fun n=>by
  induction n with
  |zero=>intro _;exact ⟨Hb,show (0:Int)<=0/\(0:Int)<18446744073709551616 by decide,fun a ha=>by simp [bP,jt,dk0] at ha⟩
  |succ n ih=>
   intro hn;rw [tS (by omega),dW];exact (ih (by omega)).step (kJ (Qok:=Qok) (ops.take n) fun o ho=>hk o (List.mem_of_mem_take ho)) _
 have:=this ops.length (lR _)
 rwa [List.take_length] at this
def Hc (G:Wz->Prop)(N:Nat):Prop:=uj uB Hk G N
theorem xS (o:OpD):oG uB o:=⟨fun _=>trivial,fun _=>trivial⟩
def zM (w:Wz)(g i:Nat)(x:js):Prop:=∃v,w.cell? ⟨g,i * 5,none⟩=some (.int .i64 x.code)/\w.cell? ⟨g,i * 5+1,none⟩=some (.int .i64 x.ver)/\w.cell? ⟨g,i * 5+2,none⟩=some (.string x.body)/\w.cell? ⟨g,i * 5+3,none⟩=some v/\w.cell? ⟨g,i * 5+4,none⟩=some (.string x.tok)/\wk w v x.items
theorem zM.left {w w':Wz}{g i:Nat}{x:js}(h:zM w g i x)(hl:am w w'):zM w' g i x:=by
 obtain ⟨v,h0,h1,h2,h3,h4,hi⟩:=h;exact ⟨v,hl.cell h0,hl.cell h1,hl.cell h2,hl.cell h3,hl.cell h4,hi.left hl⟩
def H9 (ops:List OpD)(m:Nat)(w:Wz)(e:Ending)(w':Wz):Prop:=
 ∃g,e=.returned (.slice (some ⟨g,0,none⟩) m m)/\am w w'/\∀ (i:Nat) (x:js),(bP ops).al[i]?=some x->zM w' g i x
theorem nk {G:Wz->Prop}{N:Nat}(d:Hc G N)(v:Wq)(ops:List OpD)(w:Wz)(hG:∀w',am w w'->G w')(h:cN w v ops)(hne:ops≠[])(hn:ops.length<=N)(j:N<2199023255300):
  Calls Yq.prog 18 #[v] w fun e w'=>H9 ops ops.length w e w'\/Stop uB e w':=by
 obtain ⟨a,cap,rfl,hx⟩:=h.form;obtain ⟨b,off,rfl,hS⟩:=hx hne;refine (B8 uB Hk G N d b off cap ops w hG hS h.sized hn j (fun o _=>xS o) (fun _ _=>trivial)).mono ?_;rintro e w' (⟨A,zs,rfl,f,hown,c,-,hl⟩|hst)
 .refine .inl ⟨_,rfl,hl,fun i x hx=>?_⟩;have hi:=(sL hx).1;rw [eD] at hi;have hz:i<zs.length:=by have:=congrArg List.length f;rw [lM,eD] at this;omega
  have e1:zs[i].1=x:=by
   rw [<-f,List.getElem?_map,List.getElem?_eq_getElem hz] at hx;exact oJ hx
  obtain ⟨c0,c1,c2,c3,c4⟩:=kK zs i hz;have hr:=(c zs[i] (List.getElem_mem hz)).its;rw [e1] at c0 c1 c2 c4 hr;exact ⟨zs[i].2,(hown.cellAt _ (by omega)).trans c0,(hown.cellAt _ (by omega)).trans c1,(hown.cellAt _ (by omega)).trans c2,(hown.cellAt _ (by omega)).trans c3,(hown.cellAt _ (by omega)).trans c4,hr⟩
 .exact .inr hst
def aP:OpD:=⟨11,⟨#[]⟩,⟨#[]⟩,⟨#[]⟩,⟨#[]⟩,0,0⟩
def iZ (b:ByteArray):OpD:=⟨12,⟨#[]⟩,b,⟨#[]⟩,⟨#[]⟩,0,-1⟩
theorem xT (a:List OpD)(d:Dk):iz a d aP=(d.st,d.L,⟨0,0,ci d.st d.L.tm,[],⟨#[]⟩⟩):=by
 simp [iz,kI,stepA,aP]
theorem Ei (a:List OpD)(d:Dk)(b:ByteArray):iz a d (iZ b)=cF d.st d.L b:=by
 have e:cQ (a.map (·.kind)) d.bods (-1) b=b:=by rw [cQ,if_neg (by omega)]
 simp [iz,kI,iZ,e]
theorem Ej (s:List OpD)(a:OpD):(bP (s++[a])).al=(bP s).al++[(iz s (bP s) a).2.2]:=by rw [dW];rfl
theorem Hd {s:List OpD}{x:js}{r:List js}{ops:List OpD}(h:(bP ops).al=(bP s).al++x::r):(bP ops).al[s.length]?=some x:=by
 rw [h,aR (by rw [eD];omega),eD,Nat.sub_self];rfl
def zX:List OpD:=[⟨1,svB,svX,⟨#[]⟩,⟨#[]⟩,0,0⟩,aP,⟨4,svB,⟨#[]⟩,⟨#[]⟩,⟨#[]⟩,0,0⟩,⟨12,⟨#[]⟩,⟨#[]⟩,⟨#[]⟩,⟨#[]⟩,0,1⟩,⟨2,svB,⟨#[]⟩,⟨#[]⟩,⟨#[]⟩,0,0⟩]
theorem If:∃a0 h a2,(bP zX).al=[a0,h,a2,⟨0,0,⟨#[]⟩,[],⟨#[]⟩⟩,⟨0,1,svX,[],⟨#[]⟩⟩]:=by
 obtain ⟨st1,h1⟩:∃st1,st1=zK:=⟨_,rfl⟩;have f:eJ (ci st1 0)=some (st1,0):=by rw [h1];exact Gl
 have e1:bP [⟨1,svB,svX,⟨#[]⟩,⟨#[]⟩,0,0⟩]=⟨st1,⟨[],0,[],0⟩,[⟨0,1,⟨#[]⟩,[],⟨#[]⟩⟩]⟩:=by rw [h1];rfl
 have e2:bP [⟨1,svB,svX,⟨#[]⟩,⟨#[]⟩,0,0⟩,aP]=⟨st1,⟨[],0,[],0⟩,[⟨0,1,⟨#[]⟩,[],⟨#[]⟩⟩,⟨0,0,ci st1 0,[],⟨#[]⟩⟩]⟩:=by
  have:=dW [⟨1,svB,svX,⟨#[]⟩,⟨#[]⟩,0,0⟩] aP;rw [e1] at this;refine this.trans ?_;rw [gL,xT];rfl
 have e3:∃d:Dk,bP [⟨1,svB,svX,⟨#[]⟩,⟨#[]⟩,0,0⟩,aP,⟨4,svB,⟨#[]⟩,⟨#[]⟩,⟨#[]⟩,0,0⟩]=d/\∃a2,d.al=[⟨0,1,⟨#[]⟩,[],⟨#[]⟩⟩,⟨0,0,ci st1 0,[],⟨#[]⟩⟩,a2]/\a2.body=⟨#[]⟩:=by
  have:=dW [⟨1,svB,svX,⟨#[]⟩,⟨#[]⟩,0,0⟩,aP] ⟨4,svB,⟨#[]⟩,⟨#[]⟩,⟨#[]⟩,0,0⟩;rw [e2] at this;refine ⟨_,this,_,rfl,?_⟩;simp [iz,kI,stepA,bf]
  repeat' split
  all_goals rfl
 obtain ⟨d,e3,a2,b,-⟩:=e3;have e4:=dW [⟨1,svB,svX,⟨#[]⟩,⟨#[]⟩,0,0⟩,aP,⟨4,svB,⟨#[]⟩,⟨#[]⟩,⟨#[]⟩,0,0⟩] ⟨12,⟨#[]⟩,⟨#[]⟩,⟨#[]⟩,⟨#[]⟩,0,1⟩;rw [e3] at e4;have a:iz [⟨1,svB,svX,⟨#[]⟩,⟨#[]⟩,0,0⟩,aP,⟨4,svB,⟨#[]⟩,⟨#[]⟩,⟨#[]⟩,0,0⟩] d ⟨12,⟨#[]⟩,⟨#[]⟩,⟨#[]⟩,⟨#[]⟩,0,1⟩=(st1,{d.L with opened:=[],tm:=0},⟨0,0,⟨#[]⟩,[],⟨#[]⟩⟩):=by
  have es:cQ ([⟨1,svB,svX,⟨#[]⟩,⟨#[]⟩,0,0⟩,aP,⟨4,svB,⟨#[]⟩,⟨#[]⟩,⟨#[]⟩,0,0⟩].map (·.kind)) d.bods 1 ⟨#[]⟩=ci st1 0:=by
   simp [cQ,Dk.bods,b,aP]
  simp only [iz,kI,if_true];rw [es,cF,f]
 rw [gL,a,b] at e4;have e5:=dW [⟨1,svB,svX,⟨#[]⟩,⟨#[]⟩,0,0⟩,aP,⟨4,svB,⟨#[]⟩,⟨#[]⟩,⟨#[]⟩,0,0⟩,⟨12,⟨#[]⟩,⟨#[]⟩,⟨#[]⟩,⟨#[]⟩,0,1⟩] ⟨2,svB,⟨#[]⟩,⟨#[]⟩,⟨#[]⟩,0,0⟩;have e:bP [⟨1,svB,svX,⟨#[]⟩,⟨#[]⟩,0,0⟩,aP,⟨4,svB,⟨#[]⟩,⟨#[]⟩,⟨#[]⟩,0,0⟩,⟨12,⟨#[]⟩,⟨#[]⟩,⟨#[]⟩,⟨#[]⟩,0,1⟩]=_:=e4;rw [e] at e5;have c:bP zX=_:=e5;refine ⟨⟨0,1,⟨#[]⟩,[],⟨#[]⟩⟩,⟨0,0,ci st1 0,[],⟨#[]⟩⟩,a2,?_⟩;rw [c];clear c e5 e4 e a e3 b e2 e1 f;subst h1;rfl
theorem He:Sized zX:=by
 intro o ho;simp only [zX,List.mem_cons,List.not_mem_nil,or_false] at ho;rcases ho with rfl|rfl|rfl|rfl|rfl<;>exact ⟨by simp only [maxLen,aP];decide,by simp only [maxLen,aP];decide⟩
theorem qj (w:Wz):(Instr.build 31 #[(0,.int .i64 11)]).run Yq.prog w=.ok (.agg #[.int .i64 11,.string ⟨#[]⟩,.string ⟨#[]⟩,.string ⟨#[]⟩,.string ⟨#[]⟩,.int .i64 0,.int .i64 0]) w:=by kernel_rfl
theorem wm (w:Wz):(Instr.build 31 #[(0,.int .i64 12),(6,.int .i64 1)]).run Yq.prog w=.ok (.agg #[.int .i64 12,.string ⟨#[]⟩,.string ⟨#[]⟩,.string ⟨#[]⟩,.string ⟨#[]⟩,.int .i64 0,.int .i64 1]) w:=by kernel_rfl
theorem zN {G:Wz->Prop}{N:Nat}(a:Hc G N)(h7:7<=N)(d:N<2199023255300)(w:Wz)(hG:∀w',am w w'->G w'):Calls Yq.prog 29 #[] w fun e w'=>(e=.returned (.bool true)/\am w w')\/Stop uB e w':=by
 have HR:Hid (∀W:Wz,am w W->Calls Yq.prog 18 #[.slice (some ⟨W.heap.size,0,none⟩) 5 5] (W.alloc (.cells (zX.flatMap aD).toArray 31)) fun e w'=>H9 zX 5 (W.alloc (.cells (zX.flatMap aD).toArray 31)) e w'\/Stop uB e w'):=fun W b=>
  nk a _ zX _ (fun w' h=>hG w' ((b.alloc _).trans h)) (oA W zX _ _ rfl 5 rfl He (by simp [zX])) (by simp [zX]) (by simp [zX];omega) d
 have hb1:=qj;have hb2:=wm;clear a hG;go_enter (Yq.nq func29),ntmps29;go_wp2_with fail
 refine (wj _ _ _ w).mono ?_;rintro e w1 ⟨rfl,c⟩;go_wp2_with fail
 refine (wj _ _ _ w1).mono ?_;rintro e w2 ⟨rfl,b2⟩;replace b2:=c.trans (b2.mono c.size);go_wp2_with fail
 refine (wj _ _ _ w2).mono ?_;rintro e w3 ⟨rfl,b3⟩;replace b3:=b2.trans (b3.mono b2.size);clear c b2;go_wp2_with fail
 refine (HR.out w3 (.below b3)).mono ?_;rintro e w8 (⟨g,rfl,hl,hA⟩|hst)
 .have HB:Hid (am w w8):=((am.below b3).alloc _).trans hl;obtain ⟨x0,x1,x2,hrun⟩:=If;obtain ⟨v3,c0,-⟩:=hA 3 ⟨0,0,⟨#[]⟩,[],⟨#[]⟩⟩ (by rw [hrun];rfl);obtain ⟨v4,d0,-,d2,-⟩:=hA 4 ⟨0,1,svX,[],⟨#[]⟩⟩ (by rw [hrun];rfl);simp only [svX,Nat.reduceMul,Nat.reduceAdd] at c0 d0 d2;clear hA hrun hl HR b3;go_wp2;go_ret;exact .inl ⟨rfl,HB.out⟩
 .obtain ⟨x,y,r,rfl,hst⟩:=hst;exact ⟨rfl,.inr ⟨x,y,r,rfl,hst⟩⟩
theorem Ek (k0 g0 c:Nat)(ks:List Int)(bs:List ByteArray)(o:OpD)(w:Wz)(hn:bs.length<=2199023255552)(c8:w.cell? ⟨k0,8,none⟩=some (.slice (some ⟨g0,0,none⟩) bs.length c))(hb:EH w k0 g0 bs.length ks bs):
  Calls Yq.prog 50 #[.pointer (some ⟨k0,0,none⟩),cE o] w fun e w'=>e=.returned (.string (cQ ks bs o.src o.body))/\Below w.heap.size w w':=by
 obtain ⟨l,key,body,i,p,n,src⟩:=o;obtain ⟨E,so,C,sc,A,hsn,hks⟩:=hb.script;have hbd:=hb.bodies;have hkl:=hb.kl;have hlt:k0<w.heap.size:=bC w _ c8;obtain ⟨W,v⟩:∃W,W=w.alloc (.cells #[.int .i64 l,.string key,.string body,.string i,.string p,.int .i64 n,.int .i64 src] 31):=⟨_,rfl⟩;have d:Below w.heap.size w W:=by rw [v];exact (bR _ _).alloc (lR _) _
 have q:Below w.heap.size w {W with drawn:=W.drawn+1}:=⟨d.os,d.tape,d.output,d.size,d.block⟩;have d8:=aj d c8;have d7:=aj d A;have HA:=xC k0 (some ⟨g0,0,none⟩) bs.length c src {W with drawn:=W.drawn+1} hn (aj q c8);have k:W.heap[w.heap.size]?=some (.cells #[.int .i64 l,.string key,.string body,.string i,.string p,.int .i64 n,.int .i64 src] 31):=by rw [v];exact aN _ _
 have x:W.cell? ⟨w.heap.size,6,none⟩=some (.int .i64 src):=by simp [World.cell?,k]
 have HB:Hid (Below w.heap.size w W/\W.cell? ⟨k0,7,none⟩=some (.slice (some ⟨E,so,none⟩) C sc)/\W.cell? ⟨w.heap.size,6,none⟩=some (.int .i64 src)):=⟨d,d7,x⟩;have HW:Hid (W=w.alloc (.cells #[.int .i64 l,.string key,.string body,.string i,.string p,.int .i64 n,.int .i64 src] 31)):=v;have hr2:({W with drawn:=W.drawn+1}:Wz).cell? ⟨w.heap.size,2,none⟩=some (.string body):=by
  show W.cell? _=_;simp [World.cell?,k]
 have B:({W with drawn:=W.drawn+1}:Wz).cell? ⟨w.heap.size,6,none⟩=some (.int .i64 src):=x;have z:({W with drawn:=W.drawn+1}:Wz).cell? ⟨k0,8,none⟩=some (.slice (some ⟨g0,0,none⟩) bs.length c):=d8;obtain ⟨D,hD⟩:∃D:Wz,D={W with drawn:=W.drawn+1}:=⟨_,rfl⟩;have f:Hid (D={W with drawn:=W.drawn+1}/\Below w.heap.size w D):=⟨hD,by rw [hD];exact q⟩;rw [<-hD] at hr2 B z HA;unfold cE;simp only;by_cases ha:0<=src/\src<bs.length
 .have hd:decide (0<=src/\src<bs.length)=true:=by simp [ha]
  rw [hd] at HA;obtain ⟨s,rfl⟩:∃s:Nat,src=s:=⟨src.toNat,by omega⟩;have hs:s<bs.length:=by omega
  have hs2:s<ks.length:=by omega
  have ck:=aj d (hks s hs2);have cbD:D.cell? ⟨g0,s * 5+2,none⟩=some (.string bs[s]):=by rw [hD];exact aj d (hbd s hs)
  have e0:ks[(s:Int).toNat]?.getD 0=ks[s]:=by simp [hs2]
  have e1:bs[(s:Int).toNat]?.getD ⟨#[]⟩=bs[s]:=by simp [hs]
  have y:cQ ks bs s body=if ks[s]=11 then bs[s] else body:=by rw [cQ,if_pos ha,e0,e1]
  rw [y];have u:s<C:=by omega
  generalize ks[s]=t at *;generalize bs[s]=bb at *;clear v d q d8 d7 x k hks hbd c8 A hb hD;by_cases htk:t=11
  .have r:(t==11)=true:=by simp [htk]
   rw [if_pos htk];go_enter (Yq.nq func50),ntmps50
   go_upto_region 1 with fail
   rename_i K1 hK1 K2 h;rw [<-HW.out];refine wpIn_wide.1 (show Code.wpIn (wf none) 0 _ _ _ _ _ from xF (id:=1) (m:=0) (s:=s) (so:=so) (j:=7) (i1:=so+s * 7) (i2:=so+s * 7) (lv:=.int .i64 t) (b:=t==11) (ops:=vT) rfl rfl rfl HB.out.2.2 (.inr ⟨rfl,rfl,rfl,rfl,t,rfl,rfl⟩) HB.out.2.1 rfl u ck (by rw [<-f.out.1];exact HA) (fun a h1 h2 h3 h4=>?_));rw [<-f.out.1];have h2:a.defers=[]:=h2;have ha:=iQ a 32 h1;rw [r] at h4;have f0:a.eval (.tmp 0)=.pointer (some ⟨k0,0,none⟩):=h3 0 (by decide);have f3:a.eval (.tmp 3)=.pointer (some ⟨w.heap.size,0,none⟩):=h3 3 (by decide);refine h _ _ ?_;rw [ha,h2];clear ha h1 h2 h3;generalize a.eval=ρ at f0 f3 h4 ⊢;simp only [List.range,List.range.loop,List.map_cons,List.map_nil,f0,f3,h4];clear f0 f3 h4 h K2 HA ck;have h1i:¬((s:Int)<0):=by omega
   go_wp2_with fail
   go_region
   all_goals
    go_wp2;go_ret;exact ⟨rfl,f.out.2.drew⟩
  .have r:(t==11)=false:=by simp [htk]
   rw [if_neg htk];go_enter (Yq.nq func50),ntmps50
   go_upto_region 1 with fail
   rename_i K1 hK1 K2 h;rw [<-HW.out];refine wpIn_wide.1 (show Code.wpIn (wf none) 0 _ _ _ _ _ from xF (id:=1) (m:=0) (s:=s) (so:=so) (j:=7) (i1:=so+s * 7) (i2:=so+s * 7) (lv:=.int .i64 t) (b:=t==11) (ops:=vT) rfl rfl rfl HB.out.2.2 (.inr ⟨rfl,rfl,rfl,rfl,t,rfl,rfl⟩) HB.out.2.1 rfl u ck (by rw [<-f.out.1];exact HA) (fun a h1 h2 h3 h4=>?_));rw [<-f.out.1];have h2:a.defers=[]:=h2;have ha:=iQ a 32 h1;rw [r] at h4;have f0:a.eval (.tmp 0)=.pointer (some ⟨k0,0,none⟩):=h3 0 (by decide);have f3:a.eval (.tmp 3)=.pointer (some ⟨w.heap.size,0,none⟩):=h3 3 (by decide);refine h _ _ ?_;rw [ha,h2];clear ha h1 h2 h3;generalize a.eval=ρ at f0 f3 h4 ⊢;simp only [List.range,List.range.loop,List.map_cons,List.map_nil,f0,f3,h4];clear f0 f3 h4 h K2 HA ck;go_wp2_with fail
   go_ret;exact ⟨rfl,f.out.2⟩
 .have hd:decide (0<=src/\src<bs.length)=false:=by simpa using ha
  rw [hd] at HA;have y:cQ ks bs src body=body:=by rw [cQ,if_neg ha]
  rw [y];clear v d q d8 d7 x k hks hbd c8 A hb hD;go_enter (Yq.nq func50),ntmps50
  go_upto_region 1 with fail
  rename_i K1 hK1 K2 h;rw [<-HW.out];refine wpIn_wide.1 (show Code.wpIn (wf none) 0 _ _ _ _ _ from G6 (id:=1) (m:=0) (ops:=vT) rfl rfl rfl HB.out.2.2 (.inr rfl) (by rw [<-f.out.1];exact HA) (fun a h1 h2 h3 h4=>?_));rw [<-f.out.1];have h2:a.defers=[]:=h2;have ha:=iQ a 32 h1;have f0:a.eval (.tmp 0)=.pointer (some ⟨k0,0,none⟩):=h3 0 (by decide);have f3:a.eval (.tmp 3)=.pointer (some ⟨w.heap.size,0,none⟩):=h3 3 (by decide);refine h _ _ ?_;rw [ha,h2];clear ha h1 h2 h3;generalize a.eval=ρ at f0 f3 h4 ⊢;simp only [List.range,List.range.loop,List.map_cons,List.map_nil,f0,f3,h4];clear f0 f3 h4 h K2 HA;go_wp2_with fail
  go_ret;exact ⟨rfl,f.out.2⟩
theorem Ch (k0:Nat)(v:Wq)(w:Wz)(c4:w.cell? ⟨k0,4,none⟩=some v)(f4:w.frozen? ⟨k0,4,none⟩=false):
  Calls Yq.prog 80 #[.pointer (some ⟨k0,4,none⟩)] w fun e w'=>e=.returned (.tuple #[])/\w'=w.setCell ⟨k0,4,none⟩ (.slice none 0 0):=by
 go_enter (Yq.nq func80),ntmps80;go_wp2;go_end0;exact ⟨rfl,rfl⟩
section
variable {A:Nat->Prop} {B k0:Nat} {w w2:Wz} {st:St} {L:Lg}
theorem Ci (h:aI A B w k0 st L)(hl:am w w2){A1:Nat->Prop}{p:Option Addr}{c:St}{tm:Int}(q:ai A1 41 w2 p c.f)(i:∀b,A1 b->w.heap.size<=b)(_hB:B<=w.heap.size):
  ∃A':Nat->Prop,(∀b,A b->A' b)/\(∀b,A' b->A b\/w.heap.size<=b)/\aI A' B (put5 w2 k0 (.pointer p) (.int .i64 c.count) (.int .i64 c.last) (.int .u64 tm) (.slice none 0 0)) k0 c {L with opened:=[],tm:=tm}/\em A B k0 w (put5 w2 k0 (.pointer p) (.int .i64 c.count) (.int .i64 c.last) (.int .u64 tm) (.slice none 0 0))/\FrC k0 w (put5 w2 k0 (.pointer p) (.int .i64 c.count) (.int .i64 c.last) (.int .u64 tm) (.slice none 0 0)):=by
 have h2:=h.left hl;obtain ⟨p0,c0,-⟩:=h2.store.tree;obtain ⟨v,c4,-⟩:=h2.ls.opened;obtain ⟨s,c6,hm⟩:=h.ls.told;replace c6:=hl.cell c6;have c1:=h2.store.count;have c2:=h2.store.last;have c3:=h2.time;have hlt:=h.ls.lt;have hlow:=h.ls.low;obtain ⟨W,d⟩:∃W,W=put5 w2 k0 (.pointer p) (.int .i64 c.count) (.int .i64 c.last) (.int .u64 tm) (.slice none 0 0):=⟨_,rfl⟩;have hne:∀b,b≠k0->W.heap[b]?=w2.heap[b]?:=fun b hb=>by
  rw [d,put5,bS _ _ _ _ hb,bS _ _ _ _ hb,bS _ _ _ _ hb,bS _ _ _ _ hb,bS _ _ _ _ hb]
 have d0:W.cell? ⟨k0,0,none⟩=some (.pointer p):=by rw [d];exact co (by simp) (co (by simp) (co (by simp) (co (by simp) (cs c0))))
 have d1:W.cell? ⟨k0,1,none⟩=some (.int .i64 c.count):=by rw [d];exact co (by simp) (co (by simp) (co (by simp) (cs (co (by simp) c1))))
 have d2:W.cell? ⟨k0,2,none⟩=some (.int .i64 c.last):=by rw [d];exact co (by simp) (co (by simp) (cs (co (by simp) (co (by simp) c2))))
 have d3:W.cell? ⟨k0,3,none⟩=some (.int .u64 tm):=by rw [d];exact co (by simp) (cs (co (by simp) (co (by simp) (co (by simp) c3))))
 have n:W.cell? ⟨k0,4,none⟩=some (.slice none 0 0):=by rw [d];exact cs (co (by simp) (co (by simp) (co (by simp) (co (by simp) c4))))
 have l:∀j,4<j->W.cell? ⟨k0,j,none⟩=w2.cell? ⟨k0,j,none⟩:=fun j o=>by
  rw [d,put5,cO _ _ _ _ (aW (by omega)),cO _ _ _ _ (aW (by omega)),cO _ _ _ _ (aW (by omega)),cO _ _ _ _ (aW (by omega)),cO _ _ _ _ (aW (by omega))]
 have hf:∀j,W.frozen? ⟨k0,j,none⟩=w2.frozen? ⟨k0,j,none⟩:=fun j=>by
  rw [d,put5];simp only [World.frozen?_setCell]
 have hsz:W.heap.size=w2.heap.size:=by rw [d];simp [put5]
 have hs2:=hl.size;rw [<-d];have hfz:∀j,W.frozen? ⟨k0,j,none⟩=false:=fun j=>(hf j).trans (h2.ls.frozen j)
 refine ⟨fun b=>A b\/(A1 b/\b<w2.heap.size),fun b hb=>.inl hb,fun b hb=>hb.imp id fun h=>i b h.1,⟨⟨fun b hb e=>?_,⟨p,d0,ai.keep (fun b h1 h3=>⟨.inr ⟨h1,h3⟩,hne b (fun e=>by have:=i b h1;omega)⟩) 41 _ _ q⟩,d1,d2,hfz⟩,⟨⟨_,n,[],rfl,⟨by simp [aT],.inl ⟨rfl,rfl⟩⟩,fun g hg=>by simp [Value.ownBlock] at hg,fun z hz=>by simp at hz⟩,(l 5 (by omega)).trans h2.ls.begun,⟨s,(l 6 (by omega)).trans c6,?_⟩,hfz,fun hb=>?_,hlow,fun b hb=>?_⟩,d3⟩,⟨?_,by omega,fun b _ h3 h4=>(hne b h4).trans (hl.block b h3),fun b h3 h4=>(hne b (fun e=>h.ls.avoid (e▸h3))).trans (hl.block b h4),fun j o=>(l j (by omega)).trans (cB (a:=⟨k0,j,none⟩) (hl.block k0 hlt)),fun j=>(hf j).trans (fB (a:=⟨k0,j,none⟩) (hl.block k0 hlt))⟩,⟨by omega,fun b hb h3 _=>(hne b h3).trans (hl.block b hb.lt),fun b ho=>?_⟩⟩
 .subst e;rcases hb with hb|hb
  .exact h.ls.avoid hb
  .have:=i _ hb.1;omega
 .rcases hm with hm|⟨m,es,k,m1,m2,m3,t,r⟩
  .exact .inl hm
  .have hml:=(eS m2).1;exact .inr ⟨m,es,k,m1,(hne m (by omega)).trans ((hl.block m hml).trans m2),m3,fun hx=>hx.elim t fun hx=>by have:=i _ hx.1;omega,r⟩
 .rcases hb with hb|hb
  .exact h.ls.avoid hb
  .have:=i _ hb.1;omega
 .rcases hb with hb|hb
  .have:=h2.ls.inn b hb;omega
  .omega
 .rw [d];show w2.os=w.os;exact hl.os
 .obtain ⟨x,h1,h3⟩:=ho;rw [n] at h1;cases h1;simp [Value.ownBlock] at h3
theorem El (h:aI A B w k0 st L)(n:B<=w.heap.size)(a:ByteArray)(hs:a.size<=maxLen):
  Calls Yq.prog 49 #[.pointer (some ⟨k0,0,none⟩),.string a] w fun e w'=>e=.returned (.int .i64 (cF st L a).2.2.code)/\∃A':Nat->Prop,(∀b,A b->A' b)/\(∀b,A' b->A b\/w.heap.size<=b)/\aI A' B w' k0 (cF st L a).1 (cF st L a).2.1/\em A B k0 w w'/\FrC k0 w w':=by
 have HD:Hid (aI A B w k0 st L/\B<=w.heap.size):=⟨h,n⟩;have HL:=Ga a w hs;clear h hs n;go_enter (Yq.nq func49),ntmps49;go_wp2_with fail
 refine HL.mono ?_;clear HL;rintro e w1 ⟨l1,⟨e0,rfl⟩|⟨c,tm,p,A1,e0,rfl,o,d,s,r⟩⟩
 .have HR:Hid (cF st L a=(st,L,⟨12,0,⟨#[]⟩,[],⟨#[]⟩⟩)):=by show cF st L a=_;rw [cF,e0]
  have m:Hid (am w w1):=l1;clear e0 l1;go_wp2;go_ret;rw [HR.out];have hl:=m.out.alloc (.cells #[.pointer none,.int .i64 0,.int .i64 0,.int .u64 0] 59);exact ⟨rfl,A,fun _ h=>h,fun _ h=>.inl h,HD.out.1.left hl,em.left HD.out.1.ls.lt hl,FrC.left HD.out.1.ls.lt hl⟩
 .have HR:Hid (cF st L a=(c,{L with opened:=[],tm:=tm},⟨0,0,⟨#[]⟩,[],⟨#[]⟩⟩)):=by show cF st L a=_;rw [cF,e0]
  obtain ⟨W,k⟩:∃W,W=w1.alloc (.cells #[.pointer p,.int .i64 c.count,.int .i64 c.last,.int .u64 tm] 59):=⟨_,rfl⟩;have hl:am w W:=by rw [k];exact l1.alloc _
  have j:ai A1 41 W p c.f:=by rw [k];exact ai.keep (fun b h1 h2=>⟨h1,bA _ _ _ h2⟩) 41 _ _ o
  have HF:Hid (_/\am w W):=⟨Ci (tm:=tm) HD.out.1 hl j d HD.out.2,hl⟩;have h2:=HD.out.1.left l1;obtain ⟨p0,c0,-⟩:=h2.store.tree;obtain ⟨v,c4,-⟩:=h2.ls.opened;have e0:=ak c0;have e1:=ak h2.store.count;have e2:=ak h2.store.last;have e3:=ak h2.time;have e4:=ak c4;have g0:=aq c0 (h2.ls.frozen 0);have g1:=aq h2.store.count (h2.ls.frozen 1);have g2:=aq h2.store.last (h2.ls.frozen 2);have g3:=aq h2.time (h2.ls.frozen 3);have g4:=aq c4 (h2.ls.frozen 4);have l:Hid (W=w1.alloc (.cells #[.pointer p,.int .i64 c.count,.int .i64 c.last,.int .u64 tm] 59)):=k;have i:Hid ((∀O,(w1.alloc O).cell? ⟨k0,4,none⟩=some v)/\∀O,(w1.alloc O).frozen? ⟨k0,4,none⟩=false):=⟨e4,g4⟩;clear hl j o d s r l1 h2 k c0 c4 e4 g4;go_wp2_with (go_at_call 80;refine (Ch k0 v _ (co (by simp) (co (by simp) (co (by simp) (co (by simp) (i.out.1 _))))) (fs (fs (fs (fs (i.out.2 _)))))).mono ?_;rintro e w3 ⟨rfl,rfl⟩)
  go_ret;rw [HR.out,<-l.out];obtain ⟨A',q,a2,a3,a4,a5⟩:=HF.out.1;exact ⟨rfl,A',q,a2,a3,a4,a5⟩
theorem wn (h:aI A B w k0 st L)(j:B<=w.heap.size)(o:OpD)(hk:o.kind=12)(a:o.body.size<=maxLen)(s g0 cp:Nat)(hs:s<2199023255340)(c8:w.cell? ⟨k0,8,none⟩=some (.slice (some ⟨g0,0,none⟩) s cp))(ks:List Int)(bs:List ByteArray)(hb:EH w k0 g0 s ks bs):
  Calls Yq.prog 33 #[.pointer (some ⟨k0,0,none⟩),cE o] w (bi A B k0 w (cF st L (cQ ks bs o.src o.body)).1 (cF st L (cQ ks bs o.src o.body)).2.1 (cF st L (cQ ks bs o.src o.body)).2.2):=by
 obtain ⟨sv,c⟩:∃sv,sv=cQ ks bs o.src o.body:=⟨_,rfl⟩;have hsz:sv.size<=maxLen:=by
  rw [c,cQ];split
  .split
   .rename_i h1 h2;obtain ⟨x,hx⟩:∃x,bs[o.src.toNat]?=some x:=⟨_,List.getElem?_eq_getElem (by omega)⟩;rw [hx];exact hb.small x (List.mem_of_getElem? hx)
   .exact a
  .exact a
 have hl0:am w (cI w o):=aK o;have hbl:=hb.bl;subst hbl;have HS:=Ek k0 g0 cp ks bs o (cI w o) (by omega) (hl0.cell c8) (hb.left hl0);rw [<-c] at HS ⊢;have hlt:=h.ls.lt;have HL:Hid (∀w1,am (cI w o) w1->Calls Yq.prog 49 #[.pointer (some ⟨k0,0,none⟩),.string sv] w1 fun e w'=>e=.returned (.int .i64 (cF st L sv).2.2.code)/\∃A':Nat->Prop,(∀b,A b->A' b)/\(∀b,A' b->A b\/(cI w o).heap.size<=b)/\aI A' B w' k0 (cF st L sv).1 (cF st L sv).2.1/\em A B k0 (cI w o) w'/\FrC k0 (cI w o) w'):=fun w1 hl=>by
  have hs1:=hl.size;have hs0:=hl0.size;refine (El (h.left (hl0.trans hl)) (by omega) sv hsz).mono ?_;rintro e w' ⟨rfl,A',d,a2,a3,a4,a5⟩;exact ⟨rfl,A',d,fun b hb=>(a2 b hb).imp id fun h=>by omega,a3,(em.left (by omega) hl).trans a4,(FrC.left (by omega) hl).trans a5⟩
 have HB:Hid (∀w1,FrC k0 (cI w o) w1->_):=fun w1 hf=>box5 (kF o h.ls hf)
 have f:(cF st L sv).2.2=⟨(cF st L sv).2.2.code,0,⟨#[]⟩,[],⟨#[]⟩⟩:=by
  unfold cF;split<;>rfl
 have HF:Hid (∀w1 x0 x1 x2 x3 i (A':Nat->Prop),(∀b,A b->A' b)->(∀b,A' b->A b\/(cI w o).heap.size<=b)->aI A' B w1 k0 (cF st L sv).1 (cF st L sv).2.1->em A B k0 (cI w o) w1->FrC k0 (cI w o) w1->bi A B k0 w (cF st L sv).1 (cF st L sv).2.1 ⟨(cF st L sv).2.2.code,0,⟨#[]⟩,[],⟨#[]⟩⟩ (.returned (ji ⟨(cF st L sv).2.2.code,0,⟨#[]⟩,[],⟨#[]⟩⟩ (.slice none 0 0))) (put5 w1 (w.heap.size+1) x0 x1 x2 x3 i)):=fun w1 x0 x1 x2 x3 i A' d a2 d1 d2 d3=>by
  obtain ⟨e1,e2,e3,e4⟩:=ma (A':=A') (sv:=.slice none 0 0) (its:=[]) (r:=w.heap.size+1) hl0 hlt j (by omega) (by rw [aL];omega) ⟨_,fW o,rfl⟩ d a2 h.ls.inn d1 d2 d3 (fE o h.ls) ⟨none,0,rfl,fun _=>rfl,fun h=>absurd rfl h⟩ x0 x1 x2 x3 i;exact ⟨_,rfl,A',d,e1,e2,e3,e4⟩
 have hb1:=pR;rw [f];clear f c;generalize cF st L sv=R at HL HF ⊢;obtain ⟨st',L',k⟩:=R;obtain ⟨l,x1,x2,x3,i⟩:=k;simp only at HL HF ⊢;obtain ⟨kind,key,body,delim,past,n,src⟩:=o;simp only at hk;subst hk;unfold cI at HS HL HF HB;clear h hb hsz hl0 j a c8;unfold cE at HS ⊢;go_enter (Yq.nq func33),ntmps33;go_wp2_with (first
  |(go_at_call 50;refine HS.mono ?_;clear HS;rintro e w1 ⟨rfl,hb⟩)
  |(go_at_call 49;refine (HL.out w1 (.below hb)).mono ?_;clear HL;rintro e w2 ⟨rfl,A',d,a2,d1,d2,d3⟩;obtain ⟨⟨b0,m,b2,b3,b4⟩,f0,f1,f2,f3,f4⟩:=HB.out w2 d3))
 exact bodyPost_ret (v:=ji ⟨l,0,⟨#[]⟩,[],⟨#[]⟩⟩ (.slice none 0 0)) (by simp [results,results33,go_sem,ji,b0,m,b2,b3,b4]) rfl (HF.out w2 _ _ _ _ _ A' d a2 d1 d2 d3)
end
theorem Em (n pg:Int):tN n pg≠⟨#[]⟩:=by
 intro h;have:=congrArg (fun b=>b.data.size) h;simp [tN] at this
def sA:ByteArray:=⟨#[97]⟩
end
section
open Go.RowKit
def qk (o:OpD):Prop:=(1<=o.kind/\o.kind<=5)\/o.kind=9
def dN (ops:List OpD):List OpD:=ops.filter fun o=>decide ((1<=o.kind/\o.kind<=5)\/o.kind=9)
theorem us (ops:List OpD):∀o∈dN ops,qk o:=fun o ho=>of_decide_eq_true (p:=(1<=o.kind/\o.kind<=5)\/o.kind=9) (List.mem_filter.1 ho).2
theorem ql (ops:List OpD):(dN ops).length<=ops.length:=List.length_filter_le _ _
theorem zO (a:Option Addr)(n cap:Nat)(ops:List OpD)(w:Wz)(h:cN w (.slice a n cap) ops)(hn:n * 88<=140737488351232):
  Calls Yq.prog 30 #[.slice a n cap] w fun e w'=>∃v',e=.returned v'/\w'.ownsRow w.heap.size 31 7 v' (dN ops).length ((dN ops).flatMap aD)/\Below w.heap.size w w':=by
 obtain ⟨i0,z,x,v,s⟩:=info_parts Yq.infoOp;have r:n=ops.length:=by
  obtain ⟨a',q,he,_⟩:=h.form;cases he;rfl
 have HS:Hid (cN w (.slice a n cap) ops/\n=ops.length):=⟨h,r⟩;clear h r;go_enter (Yq.nq func30),ntmps30;go_wp2_with fail
 go_loopw [3,4] (fun s3 s4 wr=>∃i:Nat,i<=n/\s4=.int .i64 i/\wr.ownsRow w.heap.size 31 7 s3 (dN (ops.take i)).length ((dN (ops.take i)).flatMap aD)/\Below w.heap.size w wr) (fun _ s4 _=>n-(intOf s4).toNat)
 case atStart=>exact ⟨0,Nat.zero_le _,rfl,World.ownsRow_nil _ _ _ _,bR _ _⟩
 case round=>
  obtain ⟨i,hin,rfl,hown,hb⟩:=hrel;obtain ⟨C,E,rfl,-⟩:=az hown;by_cases hlt:i<n
  .have j:i<ops.length:=by rw [<-HS.out.2];exact hlt
   have hne:ops≠[]:=by intro e;rw [e] at j;simp at j
   obtain ⟨a',q,he,hx⟩:=HS.out.1.form;obtain ⟨b,off,ha,p⟩:=hx hne;subst ha;cases he;obtain ⟨c0,c1,c2,c3,c4,c5,c6⟩:=p i j;replace c0:=aj hb c0;replace c1:=aj hb c1;replace c2:=aj hb c2;replace c3:=aj hb c3;replace c4:=aj hb c4;replace c5:=aj hb c5;replace c6:=aj hb c6;have d:Hid (dN (ops.take (i+1))=dN (ops.take i)++(if (1<=ops[i].kind/\ops[i].kind<=5)\/ops[i].kind=9 then [ops[i]] else [])):=show dN (ops.take (i+1))=_ by
    rw [tS j];unfold dN;rw [List.filter_append];by_cases hk:(1<=ops[i].kind/\ops[i].kind<=5)\/ops[i].kind=9<;>simp [hk]
   have hle:(dN (ops.take i)).length<=i:=by have:=ql (ops.take i);rw [tL] at this;omega
   generalize ops[i]=o at *;obtain ⟨c,key,body,f,l,D,src⟩:=o;simp only at c0 c1 c2 c3 c4 c5 c6 d;have HX:Hid (wr.ownsRow w.heap.size 31 7 (.slice C (dN (ops.take i)).length E) (dN (ops.take i)).length ((dN (ops.take i)).flatMap aD)/\Below w.heap.size w wr):=⟨hown,hb⟩;clear hown hb p hx;by_cases hk:(1<=c/\c<=5)\/c=9
   .rw [if_pos hk] at d;have hks:(decide (1<=c)=true/\decide (c<=5)=true)\/(decide (1<=c)=true/\decide (c<=5)=false/\(c==9)=true):=hk.imp (fun h=>⟨decide_eq_true h.1,decide_eq_true h.2⟩) fun h=>⟨decide_eq_true (by omega),decide_eq_false (by omega),by simp [h]⟩
    clear hk;generalize hm:(dN (ops.take i)).length=m at *;have A:Hid ((dN (ops.take i)).length=m):=hm;clear hm;rcases hks with ⟨hk1,hk2⟩|⟨hk1,hk2,hk3⟩;all_goals
     go_wp2_with (at_builtin;refine wpList_append_own _ rfl _ _ 22 rfl w.heap.size 31 i0 _ 7 88 (Yq.u underlying22) z x v s rfl (by decide) _ m _ rfl (HX.out.1.alloc _) ⟨wr.heap.size,0,none⟩ 1 1 (aD ⟨c,key,body,f,l,D,src⟩) rfl rfl (pS wr ⟨c,key,body,f,l,D,src⟩ _) (one7 _) (by simp only [maxLen];omega) (by omega) (by have:=HX.out.2.size;simp;omega) ?_;intro v2 w2 t B _)
     have b2:Below w.heap.size w w2:=(HX.out.2.alloc HX.out.2.size _).grown B (by have:=HX.out.2.size;simp;omega) (fun k e=>(HX.out.1.lt k e).1);refine ⟨⟨i+1,by omega,by go_num,?_,b2⟩,by simp [intOf];omega⟩;rw [d.out];rw [lP,A.out,List.flatMap_append];simpa using t
   .rw [if_neg hk,List.append_nil] at d;have h9:¬c=9:=fun h=>hk (.inr h)
    have h9':(c==9)=false:=by simpa using h9
    by_cases hk1:1<=c
    .have hk2:decide (1<=c)=true:=decide_eq_true hk1;have hk3:decide (c<=5)=false:=decide_eq_false (fun h=>hk (.inl ⟨hk1,h⟩));go_wp2_with fail
     refine ⟨⟨i+1,by omega,by go_num,?_,HX.out.2⟩,by simp [intOf];omega⟩;rw [d.out];exact HX.out.1
    .have hk2:decide (1<=c)=false:=decide_eq_false hk1;go_wp2_with fail
     refine ⟨⟨i+1,by omega,by go_num,?_,HX.out.2⟩,by simp [intOf];omega⟩;rw [d.out];exact HX.out.1
  .have y:i=n:=by omega
   subst y;have HT:Hid (ops.take i=ops):=tO (by rw [<-HS.out.2];exact lR _);have HO:Hid (wr.ownsRow w.heap.size 31 7 (.slice C (dN (ops.take i)).length E) (dN (ops.take i)).length ((dN (ops.take i)).flatMap aD)/\Below w.heap.size w wr):=⟨hown,hb⟩;clear hown hb;go_wp2;go_ret;refine ⟨_,rfl,?_,HO.out.2⟩;have:=HO.out.1;rw [HT.out] at this;rw [HT.out];exact this
end
section
open Go.Conc Go.ConcX Go.ConcX.Gen Go.RowKit
def dX:OpD:=⟨9,⟨#[]⟩,⟨#[]⟩,⟨#[]⟩,⟨#[]⟩,1000,0⟩
def fI:OpD:=⟨7,⟨#[]⟩,⟨#[]⟩,⟨#[]⟩,⟨#[]⟩,20,0⟩
def wo (a:js):Int×Int×ByteArray×List ItD:=(a.code,a.ver,a.body,a.items)
structure Alike (d d':Dk):Prop where
 st:d.st=d'.st
 tm:d.L.tm=d'.L.tm
 o:d.L.opened=[]
 o':d'.L.opened=[]
theorem zP (L L':Lg)(h:L.tm=L'.tm)(ho:L.opened=[])(a:L'.opened=[])(u:Int):(cX L u).2=(cX L' u).2/\(cX L u).1.tm=(cX L' u).1.tm/\(cX L u).1.opened=[]/\(cX L' u).1.opened=[]:=by
 unfold cX;split
 .exact ⟨rfl,h,ho,a⟩
 .exact ⟨rfl,by simp [jr,h],by simp [jr,ho],by simp [jr,a]⟩
theorem ws {d d':Dk}(h:Alike d d')(o:OpD)(ho:qk o):Alike (bE d o) (bE d' o)/\wo (stepA d.st d.L d.toks o).2.2=wo (stepA d'.st d'.L d'.toks o).2.2:=by
 rcases ho with ho|ho
 .have e1:=um d.st d.L d.toks o (by omega);have e2:=um d'.st d'.L d'.toks o (by omega);rw [<-h.st] at e2;refine ⟨⟨?_,?_,?_,?_⟩,by rw [e1,<-h.st,e2]⟩
  .simp only [bE,e1,<-h.st,e2]
  .simp only [bE,e1,<-h.st,e2,h.tm]
  .simp only [bE,e1,h.o]
  .simp only [bE,<-h.st,e2,h.o']
 .have e:∀ (st:St) (L:Lg) (a:List ByteArray),stepA st L a o=(st,(cX L o.n).1,⟨(cX L o.n).2,0,⟨#[]⟩,[],⟨#[]⟩⟩):=fun st L a=>by simp [stepA,ho]
  obtain ⟨t1,t2,t3,t4⟩:=zP d.L d'.L h.tm h.o h.o' o.n;exact ⟨⟨by simp only [bE,e,h.st],by simp only [bE,e,t2],by simp only [bE,e,t3],by simp only [bE,e,t4]⟩,by simp only [e,wo,t1]⟩
theorem qm:∀ (Q:List OpD)(d d':Dk),Alike d d'->(∀o∈Q,qk o)->∃b a,(Q.foldl bE d).al=d.al++b/\(Q.foldl bE d').al=d'.al++a/\b.map wo=a.map wo/\Alike (Q.foldl bE d) (Q.foldl bE d')
 | [],d,d',h,_=>⟨[],[],by simp,by simp,rfl,h⟩
 |o::Q,d,d',h,hQ=>by
  obtain ⟨h1,h2⟩:=ws h o (hQ o (by simp));obtain ⟨b,a,c,a2,a3,a4⟩:=qm Q _ _ h1 fun x hx=>hQ x (by simp [hx])
  refine ⟨(stepA d.st d.L d.toks o).2.2::b,(stepA d'.st d'.L d'.toks o).2.2::a,?_,?_,by rw [List.map_cons,List.map_cons,h2,a3],a4⟩
  .rw [List.foldl_cons,c];simp [bE]
  .rw [List.foldl_cons,a2];simp [bE]
theorem Cj (L L':Lg)(f:List UInt8->List Ver)(q:Qy)(m:Int)(h:L.opened=[])(c:L'.opened=[]):(eP L f q m).2.1=(eP L' f q m).2.1/\(eP L f q m).2.2.2=(eP L' f q m).2.2.2:=by
 have hp:∀l:List ItD,∀k,di ((gp L f q m).lst none) 1 k l=di ((gp L' f q m).lst none) 1 k l:=fun l=>by
  induction l with
  |nil=>intro k;rfl
  |cons a l ih=>intro k;rw [di,di,ih];rfl
 have b:(gp L f q m).page 1=(gp L' f q m).page 1:=hp _ 0;have ht:(gp L f q m).tok 1=⟨#[]⟩↔(gp L' f q m).tok 1=⟨#[]⟩:=by
  have e:∀L:Lg,(gp L f q m).tok 1=⟨#[]⟩↔¬IntKind.i64.wrap (1 * m)<((ee q (cu f q.p.data.toList)).length:Int):=fun L=>by
   show DD _ 1 _=_↔_;unfold DD;constructor
   .intro h hlt;rw [if_pos (show IntKind.i64.wrap (1 * ((gp L f q m).lst none).size)<((ee (gp L f q m).q (cu (gp L f q m).f (gp L f q m).q.p.data.toList)).length:Int) from hlt)] at h;exact Em _ _ h
   .intro h;exact if_neg h
  rw [e L,e L']
 unfold eP;split
 .exact ⟨rfl,rfl⟩
 .by_cases h1:(gp L f q m).tok 1=⟨#[]⟩
  .rw [if_pos h1,if_pos (ht.1 h1)];exact ⟨b,rfl⟩
  .rw [if_neg h1,if_neg (fun h=>h1 (ht.2 h)),if_neg (by simp [h]),if_neg (by simp [c])];exact ⟨b,rfl⟩
theorem kN (a b:List OpD)(h:∀o∈b,o.kind≠12):bP (a++b)=b.foldl bE (bP a):=by
 have:∀ (b:List OpD) (x:List OpD×Dk),(∀o∈b,o.kind≠12)->(jt b x).2=b.foldl bE x.2:=fun b=>by
  induction b with
  |nil=>intro x _;rfl
  |cons o r ih=>
   intro x h;show (jt r _).2=_;rw [ih _ fun y hy=>h y (by simp [hy]),List.foldl_cons];congr 1;exact xJ (h o (by simp))
 rw [bP,mG];exact this b _ h
theorem En {m:List OpD}(h:∀o∈m,qk o):∀o∈m,o.kind≠12:=fun o ho=>by
 rcases h o ho with h|h<;>omega
theorem zQ (s t m:List OpD)(hs:∀o∈s,o.key.size<=maxLen)(hm:∀o∈m,qk o):
  (bP (s++[aP])).al[s.length]?=some ⟨0,0,ci (bP s).st (bP s).L.tm,[],⟨#[]⟩⟩ /\
  (∃x,(bP (t++[iZ (ci (bP s).st (bP s).L.tm),aP,dX]++(m++[fI,aP]))).al[t.length]?=some x/\x.code=0) /\
  (∃x,(bP (t++[iZ (ci (bP s).st (bP s).L.tm),aP,dX]++(m++[fI,aP]))).al[t.length+1]?=some x/\x.body=ci (bP s).st (bP s).L.tm) /\
  ∀i,i<m.length+2->∃x y,(bP (s++[dX,aP]++(m++[fI,aP]))).al[s.length+2+i]?=some x/\(bP (t++[iZ (ci (bP s).st (bP s).L.tm),aP,dX]++(m++[fI,aP]))).al[t.length+3+i]?=some y/\wo x=wo y:=by
 obtain ⟨b,hb⟩:∃b,b=ci (bP s).st (bP s).L.tm:=⟨_,rfl⟩;have hk:∀o∈s,oG uB o/\o.key.size<=maxLen:=fun o ho=>⟨xS o,hs o ho⟩
 have hE:=kJ (Qok:=uB) s hk;have hF:=Eh (Qok:=uB) s hk;obtain ⟨tm,G⟩:∃n:Nat,(bP s).L.tm=n:=⟨(bP s).L.tm.toNat,by have:=hF.tm;omega⟩;have R:eJ b=some ((bP s).st,(bP s).L.tm):=by
  rw [hb,G];exact Cf hE.i hE.t hF.s tm (by have:=hF.tm;omega)
 have B:∀o∈m++[fI,aP],o.kind≠12:=fun o ho=>by
  rcases List.mem_append.1 ho with h|h
  .exact En hm o h
  .simp only [List.mem_cons,List.not_mem_nil,or_false] at h;rcases h with rfl|rfl<;>decide
 rw [<-hb];obtain ⟨a,k⟩:∃a,a=bP (s++[dX,aP]):=⟨_,rfl⟩;have P:bP (s++[dX,aP])=bE (bE (bP s) dX) aP:=by
  rw [kN s _ (by intro o ho;simp only [List.mem_cons,List.not_mem_nil,or_false] at ho;rcases ho with rfl|rfl<;>decide)];rfl
 obtain ⟨dC,c⟩:∃dC,dC=bP (t++[iZ b,aP,dX]):=⟨_,rfl⟩;obtain ⟨D,v⟩:∃D,D=bP (t++[iZ b]):=⟨_,rfl⟩;have K:D=⟨(bP s).st,{(bP t).L with opened:=[],tm:=(bP s).L.tm},(bP t).al++[⟨0,0,⟨#[]⟩,[],⟨#[]⟩⟩]⟩:=by
  rw [v,dW,gL,Ei,cF,R]
 have J:bP (t++[iZ b,aP,dX])=bE (bE D aP) dX:=by
  have e:t++[iZ b,aP,dX]=(t++[iZ b])++[aP,dX]:=by simp
  rw [e,kN _ _ (by intro o ho;simp only [List.mem_cons,List.not_mem_nil,or_false] at ho;rcases ho with rfl|rfl<;>decide),<-v];rfl
 have sv:∀d:Dk,bE d aP=⟨d.st,d.L,d.al++[⟨0,0,ci d.st d.L.tm,[],⟨#[]⟩⟩]⟩:=fun d=>by simp [bE,stepA,aP]
 have tk:∀d:Dk,bE d dX=⟨d.st,(cX d.L 1000).1,d.al++[⟨(cX d.L 1000).2,0,⟨#[]⟩,[],⟨#[]⟩⟩]⟩:=fun d=>by simp [bE,stepA,dX]
 have p:(cX (bP s).L 1000).1.opened=[]:=by
  rw [cX,if_neg (by omega)];simp only [jr];rw [List.filter_eq_nil_iff];intro x hx;obtain ⟨y,hy,rfl⟩:=List.mem_map.1 hx;have:=hE.l.left y hy;have h0:y.left-1000<=0:=by omega
  simp [LsA.again,h0]
 have E:Alike a dC:=by
  rw [k,c,P,J,sv,tk,tk,sv,K];refine ⟨rfl,?_,p,?_⟩
  .simp only [cX,if_neg (show ¬((1000:Int)<0\/(1000:Int)<1000) by omega),jr]
  .simp [cX,jr]
 obtain ⟨A,u,M,a2,a3,a4⟩:=qm m a dC E hm;obtain ⟨F,H⟩:(bP (s++[dX,aP]++(m++[fI,aP]))=bE (bE (m.foldl bE a) fI) aP)/\bP (t++[iZ b,aP,dX]++(m++[fI,aP]))=bE (bE (m.foldl bE dC) fI) aP:=by
  rw [kN _ _ B,kN _ _ B,<-k,<-c,List.foldl_append,List.foldl_append];exact ⟨rfl,rfl⟩
 have I:∀d:Dk,bE d fI=⟨d.st,(eP d.L d.st.f ⟨true,⟨#[]⟩,⟨#[]⟩,⟨#[]⟩⟩ 20).1,d.al++[wg (eP d.L d.st.f ⟨true,⟨#[]⟩,⟨#[]⟩,⟨#[]⟩⟩ 20)]⟩:=fun d=>by simp [bE,stepA,fI]
 have r:∃q vy j,(bP (s++[dX,aP]++(m++[fI,aP]))).al=a.al++(A++[q,j])/\(bP (t++[iZ b,aP,dX]++(m++[fI,aP]))).al=dC.al++(u++[vy,j])/\wo q=wo vy:=by
  obtain ⟨N,b2⟩:=Cj (m.foldl bE a).L (m.foldl bE dC).L (m.foldl bE a).st.f ⟨true,⟨#[]⟩,⟨#[]⟩,⟨#[]⟩⟩ 20 a4.o a4.o';refine ⟨wg (eP (m.foldl bE a).L (m.foldl bE a).st.f ⟨true,⟨#[]⟩,⟨#[]⟩,⟨#[]⟩⟩ 20),wg (eP (m.foldl bE dC).L (m.foldl bE a).st.f ⟨true,⟨#[]⟩,⟨#[]⟩,⟨#[]⟩⟩ 20),⟨0,0,ci (m.foldl bE a).st (m.foldl bE a).L.tm,[],⟨#[]⟩⟩,?_,?_,by simp [wo,wg,N,b2]⟩
  .rw [F,sv,I];simp [M,mf]
  .rw [H,sv,I];simp [a2,mf,<-a4.st,<-a4.tm]
 obtain ⟨q,vy,j,f1,f2,f3⟩:=r;have Q:a.al.length=s.length+2:=by rw [k,eD];simp
 have O:dC.al.length=t.length+3:=by rw [c,eD];simp
 have z:dC.al=(bP t).al++[⟨0,0,⟨#[]⟩,[],⟨#[]⟩⟩,⟨0,0,b,[],⟨#[]⟩⟩,⟨(cX D.L 1000).2,0,⟨#[]⟩,[],⟨#[]⟩⟩]:=by
  rw [c,J,sv,tk];simp only [K,<-hb];simp
 have llen:A.length=m.length:=by
  have h1:=congrArg List.length M;rw [lP,B3] at h1;omega
 have llen2:u.length=m.length:=by
  have h1:=congrArg List.length a3;simp only [lM] at h1;omega
 refine ⟨?_,⟨⟨0,0,⟨#[]⟩,[],⟨#[]⟩⟩,?_,rfl⟩,⟨⟨0,0,b,[],⟨#[]⟩⟩,?_,rfl⟩,fun i hi=>?_⟩
 .have h1:=Ej s aP;rw [xT,<-hb] at h1;exact Hd h1
 .rw [f2,z,pA,aR (by rw [eD];omega),eD,Nat.sub_self];rfl
 .rw [f2,z,pA,aR (by rw [eD];omega),eD,Nat.add_sub_cancel_left];rfl
 .have C:(A++[q,j]).map wo=(u++[vy,j]).map wo:=by simp [a3,f3]
  have h1:i<(A++[q,j]).length:=by simp;omega
  have h2:i<(u++[vy,j]).length:=by simp;omega
  refine ⟨(A++[q,j])[i],(u++[vy,j])[i],?_,?_,?_⟩
  .rw [f1,aR (by omega),Q,Nat.add_sub_cancel_left,List.getElem?_eq_getElem h1]
  .rw [f2,aR (by omega),O,Nat.add_sub_cancel_left,List.getElem?_eq_getElem h2]
  .have:=congrArg (fun l=>l[i]?) C;simp only [List.getElem?_map,List.getElem?_eq_getElem h1,List.getElem?_eq_getElem h2,Option.map_some] at this;exact oJ this
theorem jn (v:Wq)(p:List OpD)(d:Nat)(hpl:p.length=d)(i m f:Nat)(a:List OpD)(w:Wz)(h:cN w v p)(hm:cN w (.slice (some ⟨i,0,none⟩) m f) a)(hn:d+m<=2199023255552)(h0:0<m):
  Calls Yq.prog 19 #[v,.slice (some ⟨i,0,none⟩) m f] w fun e x=>∃g c,e=.returned (.slice (some ⟨g,0,none⟩) (d+m) c)/\cN x (.slice (some ⟨g,0,none⟩) (d+m) c) (p++a)/\am w x:=by
 subst hpl;have hmm:m=a.length:=by
  obtain ⟨a',cap',he,_⟩:=hm.form;cases he;rfl
 refine (B9 v p i m f a w h hm hn h0).mono ?_;rintro e x ⟨v',rfl,b,hb⟩;obtain ⟨g,c,rfl,-⟩:=pU b (by omega);exact ⟨g,c,rfl,jW b (by rw [lP,hmm]) (fun o ho=>(List.mem_append.1 ho).elim (h.sized o) (hm.sized o)) (by rw [lP];omega),.below hb⟩
theorem oO {a:Option Addr}{n cap:Nat}{ops:List OpD}{w:Wz}(h:cN w (.slice a n cap) ops)(hn:n * 88<=140737488351232):Calls Yq.prog 17 #[.slice a n cap] w fun e w'=>∃a c,e=.returned (.slice a (dl ops).length c)/\cN w' (.slice a (dl ops).length c) (dl ops)/\am w w':=by
 refine (ul a n cap ops w h hn).mono ?_;rintro e w' ⟨v,rfl,b,hb⟩;obtain ⟨d,f,rfl,-⟩:=az b;exact ⟨d,f,rfl,jW b rfl (fun o ho=>h.sized o (List.mem_filter.1 ho).1) (lT (jl ops) h.len),.below hb⟩
theorem zR (w:Wz):(Instr.build 31 #[(0,.int .i64 7),(5,.int .i64 20)]).run Yq.prog w=.ok (.agg #[.int .i64 7,.string ⟨#[]⟩,.string ⟨#[]⟩,.string ⟨#[]⟩,.string ⟨#[]⟩,.int .i64 20,.int .i64 0]) w:=by kernel_rfl
theorem zS (w:Wz):(Instr.build 31 #[(0,.int .i64 9),(5,.int .i64 1000)]).run Yq.prog w=.ok (.agg #[.int .i64 9,.string ⟨#[]⟩,.string ⟨#[]⟩,.string ⟨#[]⟩,.string ⟨#[]⟩,.int .i64 1000,.int .i64 0]) w:=by kernel_rfl
theorem wu (b:ByteArray)(w:Wz):(Instr.build 31 #[(0,.int .i64 12),(6,.int .i64 (-1)),(2,.string b)]).run Yq.prog w=.ok (.agg #[.int .i64 12,.string ⟨#[]⟩,.string b,.string ⟨#[]⟩,.string ⟨#[]⟩,.int .i64 0,.int .i64 (-1)]) w:=by kernel_rfl
theorem sz0:(⟨#[]⟩:ByteArray).size<=maxLen:=Nat.zero_le _
theorem io {l:List OpD}(h:∀o∈l,o.key=⟨#[]⟩/\o.body.size<=maxLen):Sized l:=fun o ho=>⟨by rw [(h o ho).1];exact Nat.zero_le _,(h o ho).2⟩
theorem wv {G:Wz->Prop}{N:Nat}(I:Hc G N)(hN:N<2199023255300)(a0:Option Addr)(E q:Nat)(a1:Option Addr)(F p:Nat)(a2:Option Addr)(n2 k:Nat)(ops0 ops1 ops2:List OpD)(w:Wz)(h0:cN w (.slice a0 E q) ops0)(h1:cN w (.slice a1 F p) ops1)(h2:cN w (.slice a2 n2 k) ops2)(bk:E * 88<=140737488351232)(bb:F * 88<=140737488351232)(hn2:n2 * 88<=140737488351232)(ad:E+F+n2+10<=N)(hG:∀w',am w w'->G w'):
  Calls Yq.prog 13 #[.slice a0 E q,.slice a1 F p,.slice a2 n2 k] w fun e w'=>(e=.returned (.bool true)/\am w w')\/Stop uB e w':=by
 have hl0:E=ops0.length:=by obtain ⟨a',K,he,_⟩:=h0.form;cases he;rfl
 have hl1:F=ops1.length:=by obtain ⟨a',K,he,_⟩:=h1.form;cases he;rfl
 have B:n2=ops2.length:=by obtain ⟨a',K,he,_⟩:=h2.form;cases he;rfl
 have HS:Hid (cN w (.slice a0 E q) ops0/\cN w (.slice a1 F p) ops1/\cN w (.slice a2 n2 k) ops2):=⟨h0,h1,h2⟩;have HA:Hid (Hc G N/\N<2199023255300/\E+F+n2+10<=N/\∀w',am w w'->G w'):=⟨I,hN,ad,hG⟩;obtain ⟨s,hs⟩:∃s,s=dl ops0:=⟨_,rfl⟩;obtain ⟨t,ht⟩:∃t,t=dl ops1:=⟨_,rfl⟩;obtain ⟨m,hm⟩:∃m,m=dN ops2:=⟨_,rfl⟩;have HZ:Hid (Sized s/\Sized t/\Sized m/\∀o∈m,qk o):=by
  refine ⟨?_,?_,?_,?_⟩
  .rw [hs];exact fun o ho=>h0.sized o (List.mem_filter.1 ho).1
  .rw [ht];exact fun o ho=>h1.sized o (List.mem_filter.1 ho).1
  .rw [hm];exact fun o ho=>h2.sized o (List.mem_filter.1 ho).1
  .rw [hm];exact us ops2
 have a6:Hid (s.length<=E/\t.length<=F/\m.length<=n2):=by
  have e0:=jl ops0;have e1:=jl ops1;have e2:=ql ops2;rw [<-hs] at e0;rw [<-ht] at e1;rw [<-hm] at e2;exact ⟨by omega,by omega,by omega⟩
 have al:Hid (∀W,am w W->Calls Yq.prog 17 #[.slice a0 E q] W fun e w'=>∃a c,e=.returned (.slice a s.length c)/\cN w' (.slice a s.length c) s/\am W w'):=fun W hl=>by
  rw [hs];exact oO (h0.left hl) bk
 have a4:Hid (∀W,am w W->Calls Yq.prog 17 #[.slice a1 F p] W fun e w'=>∃a c,e=.returned (.slice a t.length c)/\cN w' (.slice a t.length c) t/\am W w'):=fun W hl=>by
  rw [ht];exact oO (h1.left hl) bb
 have ap:Hid (∀W,am w W->Calls Yq.prog 30 #[.slice a2 n2 k] W fun e w'=>∃a c,e=.returned (.slice a m.length c)/\cN w' (.slice a m.length c) m/\am W w'):=fun W hl=>by
  refine (zO a2 n2 k ops2 W (h2.left hl) hn2).mono ?_;rintro e w' ⟨v,rfl,Q,hb⟩;obtain ⟨va,vc,rfl,-⟩:=az Q;rw [<-hm] at Q ⊢;exact ⟨va,vc,rfl,jW Q rfl HZ.out.2.2.1 (by have:=a6.out.2.2;omega),.below hb⟩
 have hls:=a6.out;have hb1:=qj;have hb2:=wu;have hb3:=zR;have hb4:=zS;clear h0 h1 h2 hl0 hl1 B I hN ad hG hs ht hm;go_enter (Yq.nq func13),ntmps13;go_wp2_with fail
 refine (zN HA.out.1 (by have:=HA.out.2;omega) HA.out.2.1 w HA.out.2.2.2).mono ?_;rintro e w1 (⟨rfl,b1⟩|hst)
 rotate_left
 .obtain ⟨x,y,r,rfl,hst⟩:=hst;exact ⟨rfl,.inr ⟨x,y,r,rfl,hst⟩⟩
 go_wp2_with fail
 refine (al.out w1 b1).mono ?_;rintro e w2 ⟨ps,a9,rfl,ss,l2⟩;have b2:=b1.trans l2;go_wp2_with fail
 refine (a4.out w2 b2).mono ?_;rintro e w3 ⟨pt,ct,rfl,st,l3⟩;have b3:=b2.trans l3;go_wp2_with fail
 refine (ap.out w3 b3).mono ?_;rintro e R ⟨pm,cm,rfl,sm,l4⟩;have b4:=b3.trans l4;have f:Hid (cN R (.slice ps s.length a9) s/\cN R (.slice pt t.length ct) t/\cN R (.slice pm m.length cm) m/\am w R):=⟨ss.left (l3.trans l4),st.left l4,sm,b4⟩;clear b1 b2 b3 b4 l2 l3 l4 ss st sm al a4 ap;go_wp2_with fail
 have hm5:=oA R [fI,aP] _ 31 rfl 2 rfl (io (by simp [fI,aP,sz0])) (by simp);refine (jn _ m _ rfl R.heap.size 2 2 [fI,aP] _ (f.out.2.2.1.left (am.refl.alloc _)) hm5 (by omega) (by omega)).mono ?_;rintro e w5 ⟨gm,M,rfl,s5,l5⟩;have d:Hid (am R w5/\cN w5 (.slice (some ⟨gm,0,none⟩) (m.length+2) M) (m++[fI,aP])):=⟨(am.refl.alloc _).trans l5,s5⟩;clear hm5 s5 l5;go_wp2_with fail
 have hm6:=oA w5 [aP] _ 31 rfl 1 rfl (io (by simp [aP,sz0])) (by simp);refine (jn _ s _ rfl w5.heap.size 1 1 [aP] _ (f.out.1.left (d.out.1.alloc _)) hm6 (by omega) (by omega)).mono ?_;rintro e w6 ⟨g6,c6,rfl,s6,l6⟩;have b6:am w5 w6:=(am.refl.alloc _).trans l6;have O:(s++[aP]).length=s.length+1:=by simp
 have HR6:=nk HA.out.1 _ _ w6 (fun w' hl=>HA.out.2.2.2 w' ((f.out.2.2.2.trans (d.out.1.trans b6)).trans hl)) s6 (by simp) (by rw [O];have:=HA.out.2.2.1;omega) HA.out.2.1;rw [O] at HR6;clear hm6 s6 l6 O;go_wp2_with fail
 refine HR6.mono ?_;clear HR6;rintro e w7 (⟨ga,rfl,l7,af⟩|hst)
 rotate_left
 .obtain ⟨x,y,r,rfl,hst⟩:=hst;exact ⟨rfl,.inr ⟨x,y,r,rfl,hst⟩⟩
 obtain ⟨r1,r2,r3,r4⟩:=zQ s t m (fun o ho=>(HZ.out.1 o ho).1) HZ.out.2.2.2;have a7:(ci (bP s).st (bP s).L.tm).size<=maxLen:=pW (kJ (Qok:=uB) s fun o ho=>⟨xS o,(HZ.out.1 o ho).1⟩).t _;obtain ⟨va,-,-,q2,-⟩:=af _ _ r1;dsimp only at q2;generalize ci (bP s).st (bP s).L.tm=b at *;have D:Hid (_/\_/\∀i,i<m.length+2->_):=⟨r2,r3,r4⟩;have l:Hid (am w5 w7/\b.size<=maxLen):=⟨b6.trans l7,a7⟩;clear r1 r2 r3 r4 af b6 l7 a7;go_wp2_with fail
 have hm8:=oA w7 [dX,aP] _ 31 rfl 2 rfl (io (by simp [dX,aP,sz0])) (by simp);refine (jn _ s _ rfl w7.heap.size 2 2 [dX,aP] _ (f.out.1.left (d.out.1.trans (l.out.1.alloc _))) hm8 (by omega) (by omega)).mono ?_;rintro e w8 ⟨g8,c8,rfl,s8,l8⟩;have b8:am w7 w8:=(am.refl.alloc _).trans l8;clear hm8 l8;go_wp2_with fail
 refine (jn _ (s++[dX,aP]) (s.length+2) (by simp) gm (m.length+2) M (m++[fI,aP]) w8 s8 (d.out.2.left (l.out.1.trans b8)) (by have:=HA.out.2;omega) (by omega)).mono ?_;rintro e w9 ⟨g9,c9,rfl,s9,l9⟩;have b9:=b8.trans l9;have U:(s++[dX,aP]++(m++[fI,aP])).length=s.length+2+(m.length+2):=by simp;omega
 have HR9:=nk HA.out.1 _ _ w9 (fun w' hl=>HA.out.2.2.2 w' ((f.out.2.2.2.trans (d.out.1.trans (l.out.1.trans b9))).trans hl)) s9 (by simp) (by rw [U];have:=HA.out.2.2.1;omega) HA.out.2.1;rw [U] at HR9;clear s8 s9 b8 l9 U;go_wp2_with fail
 refine HR9.mono ?_;clear HR9;rintro e H (⟨gb,rfl,ab,J⟩|hst)
 rotate_left
 .obtain ⟨x,y,r,rfl,hst⟩:=hst;exact ⟨rfl,.inr ⟨x,y,r,rfl,hst⟩⟩
 have n:Hid (am w7 H):=b9.trans ab;clear b9 ab;go_wp2_with fail
 have hm11:=oA H [iZ b,aP,dX] _ 31 rfl 3 rfl (io (by simp [iZ,dX,aP,sz0,l.out.2])) (by simp);refine (jn _ t _ rfl H.heap.size 3 3 [iZ b,aP,dX] _ (f.out.2.1.left (d.out.1.trans (l.out.1.trans (n.out.alloc _)))) hm11 (by omega) (by omega)).mono ?_;rintro e w11 ⟨g11,c11,rfl,s11,a5⟩;have S:am H w11:=(am.refl.alloc _).trans a5;clear hm11 a5;go_wp2_with fail
 refine (jn _ (t++[iZ b,aP,dX]) (t.length+3) (by simp) gm (m.length+2) M (m++[fI,aP]) w11 s11 (d.out.2.left (l.out.1.trans (n.out.trans S))) (by have:=HA.out.2;omega) (by omega)).mono ?_;rintro e bn ⟨g12,c12,rfl,s12,l12⟩;have b12:=S.trans l12;have A:(t++[iZ b,aP,dX]++(m++[fI,aP])).length=t.length+3+(m.length+2):=by simp;omega
 have HR12:=nk HA.out.1 _ _ bn (fun w' hl=>HA.out.2.2.2 w' ((f.out.2.2.2.trans (d.out.1.trans (l.out.1.trans (n.out.trans b12)))).trans hl)) s12 (by simp) (by rw [A];have:=HA.out.2.2.1;omega) HA.out.2.1;rw [A] at HR12;clear s11 s12 S l12 A;go_wp2_with fail
 refine HR12.mono ?_;clear HR12;rintro e z (⟨gc,rfl,P,u⟩|hst)
 rotate_left
 .obtain ⟨x,y,r,rfl,hst⟩:=hst;exact ⟨rfl,.inr ⟨x,y,r,rfl,hst⟩⟩
 have a8:Hid (am w z):=f.out.2.2.2.trans (d.out.1.trans (l.out.1.trans (n.out.trans (b12.trans P))));have HO:Hid (∀i,i<m.length+2->∃x y:js,zM z gb (s.length+2+i) x/\zM z gc (t.length+3+i) y/\wo x=wo y/\x.items.length<=1000):=fun i hi=>by
  obtain ⟨x,y,h1,h2,h3⟩:=D.out.2.2 i hi;refine ⟨x,y,(J _ _ h1).left (b12.trans P),u _ _ h2,h3,?_⟩;refine Gn (Qok:=uB) (s++[dX,aP]++(m++[fI,aP])) (fun o ho=>⟨xS o,?_⟩) x (List.mem_of_getElem? h1);simp only [List.mem_append,List.mem_cons,List.not_mem_nil,or_false] at ho;rcases ho with (ho|rfl|rfl)|ho|rfl|rfl
  .exact (HZ.out.1 o ho).1
  .exact Nat.zero_le _
  .exact Nat.zero_le _
  .exact (HZ.out.2.2.1 o ho).1
  .exact Nat.zero_le _
  .exact Nat.zero_le _
 obtain ⟨x3,e3,f3⟩:=D.out.1;obtain ⟨x4,e4,f4⟩:=D.out.2.1;obtain ⟨v3,k0,-⟩:=u _ _ e3;obtain ⟨v4,-,-,k2,-⟩:=u _ _ e4;rw [f3] at k0;rw [f4] at k2;clear e3 f3 e4 f4 J u b12 P D q2;have j1:((t.length:Int)+3-3).toNat=t.length:=by omega
 have j2:((t.length:Int)+3-2).toNat=t.length+1:=by omega
 go_wp2_with fail
 go_loopw [18,19,20,21] (fun s18 _ _ _ wr=>∃i:Nat,i<=m.length+2/\s18=.int .i64 i/\am z wr) (fun s18 _ _ _ _=>m.length+2-(intOf s18).toNat)
 case atStart=>exact ⟨0,Nat.zero_le _,rfl,am.refl⟩
 case round=>
  obtain ⟨i,hik,rfl,hb⟩:=hrel;have HB:Hid (am z wr):=hb;by_cases hlt:i<m.length+2
  .obtain ⟨x,y,hx,hy,ar,hil⟩:=HO.out i hlt;obtain ⟨va,x0,x1,x2,x3,x4,ia⟩:=hx.left hb;obtain ⟨vb,y0,y1,y2,y3,y4,ib⟩:=hy.left hb;simp only [wo,Prod.mk.injEq] at ar;obtain ⟨e1,e2,e3,e4⟩:=ar;rw [<-e1] at y0;rw [<-e2] at y1;rw [<-e3] at y2;rw [<-e4] at ib;have a3:Hid (∀y,am wr y->Calls Yq.prog 22 #[va,vb] y fun e w'=>e=.returned (.bool true)/\Below y.heap.size y w'):=fun y hy=>(Ef va vb x.items y (ia.left hy) (ib.left hy) (by omega)).mono fun e w' h=>⟨h.1,h.2⟩
   obtain ⟨pa,ca,rfl,-⟩:=ia.form;obtain ⟨pb,cb,rfl,-⟩:=ib.form;have i1:(s.length:Int)+2+i<s.length+2+(m.length+2):=by omega
   have i2:(t.length:Int)+3+i<t.length+3+(m.length+2):=by omega
   have i3:((s.length:Int)+2+i).toNat=s.length+2+i:=by omega
   have i4:((t.length:Int)+3+i).toNat=t.length+3+i:=by omega
   have Y0:=ak y0;have Y1:=ak y1;have Y2:=ak y2;have Y3:=ak y3;have Y4:=ak y4;have z0:(x.code != x.code)=false:=by simp
   have z1:(x.ver != x.ver)=false:=by simp
   clear hb hx hy ia ib e1 e2 e3 e4 k0 k2 y0 y1 y2 y3 y4;generalize x.items.length=X at *;generalize x.code=Y at *;generalize x.ver=V at *;generalize x.body=Z at *;generalize x.tok=tk at *;generalize y.tok=T at *;go_wp2_with fail
   obtain ⟨W2,C⟩:∃W2,W2=(wr.alloc (.cells #[.int .i64 Y,.int .i64 V,.string Z,.slice pa X ca,.string tk] 36)).alloc (.cells #[.int .i64 Y,.int .i64 V,.string Z,.slice pb X cb,.string T] 36):=⟨_,rfl⟩;have hp:∀j v,(#[.int .i64 Y,.int .i64 V,.string Z,.slice pa X ca,.string tk]:Array Wq)[j]?=some v->W2.cell? ⟨wr.heap.size,j,none⟩=some v:=fun j v hv=>by
    rw [C];exact ak ((fU wr _ _ j).trans hv) _
   have hq:∀j v,(#[.int .i64 Y,.int .i64 V,.string Z,.slice pb X cb,.string T]:Array Wq)[j]?=some v->W2.cell? ⟨wr.heap.size+1,j,none⟩=some v:=fun j v hv=>by
    have:=fU (wr.alloc (.cells #[.int .i64 Y,.int .i64 V,.string Z,.slice pa X ca,.string tk] 36)) #[.int .i64 Y,.int .i64 V,.string Z,.slice pb X cb,.string T] 36 j;rw [World.size_alloc] at this;rw [C];exact this.trans hv
   have B:am wr W2:=by rw [C];exact (am.refl.alloc _).alloc _
   rw [<-C];refine (a3.out W2 B).mono ?_;rintro e ww ⟨rfl,k1⟩;have o0:=aj k1 (hp 0 _ rfl);have o1:=aj k1 (hp 1 _ rfl);have o2:=aj k1 (hp 2 _ rfl);have u0:=aj k1 (hq 0 _ rfl);have u1:=aj k1 (hq 1 _ rfl);have u2:=aj k1 (hq 2 _ rfl);have bl:Hid (am z ww):=HB.out.trans (B.trans (.below k1));clear hp hq B C k1 a3 x0 x1 x2 x3 x4 Y0 Y1 Y2 Y3 Y4;go_wp2_with fail
   exact ⟨⟨i+1,by omega,by go_num,bl.out⟩,by simp [intOf];omega⟩
  .have be:i=m.length+2:=by omega
   subst be;clear hb;go_wp2_with fail
   go_ret;exact .inl ⟨rfl,a8.out.trans HB.out⟩
end
