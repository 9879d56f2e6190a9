/- A part. -/
import Derived.Test.YtnapepbdohidgaaGreatDoorQF30
set_option maxHeartbeats 4000000
set_option maxRecDepth 100000
namespace Go.Proofs.Qw
section
open Go
open Go.Conc Go.ConcX Go.ConcX.Gen Go.RowKit
def lB:Qy:=⟨false,⟨#[]⟩,⟨#[]⟩,⟨#[]⟩⟩
theorem oN (n:Nat)(h:n<10):Lib.itoa (n:Int)=[UInt8.ofNat (48+n)]:=by
 rw [vi,Lib.decDigits,dif_pos h]
theorem ql (n pg:Int):jc n pg≠⟨#[]⟩:=by
 intro h;have:=congrArg (fun b=>b.data.size) h;simp [jc] at this
theorem tok12:jc 1 2=⟨#[49,46,50]⟩:=by
 rw [jc,show (1:Int)=((1:Nat):Int) from rfl,show (2:Int)=((2:Nat):Int) from rfl,oN 1 (by omega),oN 2 (by omega)];rfl
theorem xG (l:List (List UInt8×List Ver))(h:∀x∈l,nf lB x.1 x.2=true):∀s,(l.foldl (cn lB) s).1=s.1++l.map fun x=>⟨1,⟨x.1.toArray⟩,(rL x.2).num⟩:=by
 induction l with
 |nil=>intro s;simp
 |cons a r ih=>
  intro s;rw [List.foldl_cons,ih (fun x hx=>h x (by simp [hx]))];have e:cn lB s a=(s.1++[⟨1,⟨a.1.toArray⟩,(rL a.2).num⟩],s.2):=by
   have e2:fo lB a.1=none:=rfl;rw [cn,if_pos (h a (by simp)),e2];rfl
  rw [e];simp
theorem uu (l:List (List UInt8×List Ver))(h:∀x∈l,nf lB x.1 x.2=true):dz lB l=l.map fun x=>⟨1,⟨x.1.toArray⟩,(rL x.2).num⟩:=by
 rw [dz,ax,xG l h,List.nil_append]
theorem Ak (b:UInt8)(k:List UInt8)(v:Ver)(hv:v.mark=false):nf lB (b::k) [v]=true:=by
 have e:(⟨(b::k).toArray⟩:ByteArray).toList=b::k:=by rw [ByteArray.toList_eq]
 have e0:(⟨#[]⟩:ByteArray).toList=[]:=by rw [ByteArray.toList_eq]
 simp [nf,tT,lB,e,e0,rL,hv,Op.bytesLess]
theorem Cj (n:Nat)(f:List UInt8->List Ver)(bs:List UInt8)(v:Ver)(h0:f []=[v])(hno:∀c k,f (c::k)=[]):cG (n+1) f bs=[(bs,[v])]:=by
 rw [j4 n f bs [] .nil (fun c _ k=>hno c k),h0];rfl
theorem Ck (n:Nat)(f:List UInt8->List Ver)(bs:List UInt8)(ks:List (UInt8×Ver))(hs:ks.Pairwise fun a b=>a.1<b.1)(h0:f []=[])(h1:∀x∈ks,f [x.1]=[x.2]/\∀c k,f (x.1::c::k)=[])(hno:∀c,(∀v,(c,v) ∉ ks)->∀k,f (c::k)=[]):cG (n+2) f bs=ks.map fun x=>(bs++[x.1],[x.2]):=by
 rw [j4 (n+1) f bs (ks.map fun x=>(x.1,none)) (by rw [List.pairwise_map];exact hs) (fun c hc k=>hno c (fun v hv=>hc none (List.mem_map.2 ⟨_,hv,rfl⟩)) k),h0];simp only [List.isEmpty_nil,if_true,List.nil_append,List.flatMap_map];have:∀l:List (UInt8×Ver),(∀x∈l,f [x.1]=[x.2]/\∀c k,f (x.1::c::k)=[])->(l.flatMap fun x=>cG (n+1) (fun k=>f (x.1::k)) (bs++[x.1]))=l.map fun x=>(bs++[x.1],[x.2]):=by
  intro l;induction l with
  |nil=>intro _;rfl
  |cons a r ih=>
   intro h;obtain ⟨h1,h2⟩:=h a (by simp);rw [List.flatMap_cons,ih (fun x hx=>h x (by simp [hx])),Cj n (fun k=>f (a.1::k)) (bs++[a.1]) a.2 h1 h2];rfl
 exact this ks h1
def sB:ByteArray:=⟨#[98]⟩
def sA:ByteArray:=⟨#[97]⟩
def noB:ByteArray:=⟨#[]⟩
def eh:List OpD:=[⟨1,sB,⟨#[120]⟩,noB,noB,0,0⟩,⟨1,sA,⟨#[121]⟩,noB,noB,0,0⟩,⟨6,noB,noB,noB,noB,1,0⟩,⟨4,sB,noB,noB,noB,0,0⟩,⟨8,noB,noB,noB,noB,0,2⟩,⟨8,noB,⟨#[110,111,110,101]⟩,noB,noB,0,-1⟩]
theorem Cl (L:Lg)(f:List UInt8->List Ver)(hlen:1<(dz lB (cK f [])).length):fy L f lB 1=if 3<=L.opened.length then (L,[],⟨#[]⟩,8) else (⟨L.opened++[⟨L.begun+1,f,lB,1,10⟩],L.begun+1,iL (jc (L.begun+1) 2) (L.begun+1,2) L.told,L.tm⟩,(⟨L.begun+1,f,lB,1,10⟩:LsA).page 1,jc (L.begun+1) 2,0):=by
 have e:(iN L f lB 1).tok 1=jc (L.begun+1) 2:=by
  have h1:IntKind.i64.wrap (1 * 1)=1:=by decide
  have h2:IntKind.i64.wrap (1+1)=2:=by decide
  have hq:lB.p.data.toList=[]:=rfl;simp only [LsA.tok,BG,LsA.lst,iN,h1,h2,hq];rw [if_pos (by omega)]
 unfold fy;rw [if_neg (by omega),e,if_neg (ql _ _)];rfl
theorem Cm (x:LsA)(hq:x.q=lB)(hs:x.size=1)(pg:Int)(h:0<=pg/\pg<100):x.tok pg=if pg<(dz lB (cK x.f [])).length then jc x.num (pg+1) else ⟨#[]⟩:=by
 have h1:IntKind.i64.wrap (pg * 1)=pg:=by rw [Int.mul_one];exact wrap_small _ (by omega) (by omega)
 have h2:IntKind.i64.wrap (pg+1)=pg+1:=wrap_small _ (by omega) (by omega);have hq':lB.p.data.toList=[]:=rfl;simp only [LsA.tok,BG,LsA.lst,hq,hs,h1,h2,hq']
theorem sj (d:Dk)(key body:ByteArray)(hk:aU key=true)(hb:body.size<=100)(hc:d.st.count<200):eA d ⟨1,key,body,noB,noB,0,0⟩=⟨dp d.st key body false,d.L,d.al++[⟨0,d.st.last+1,⟨#[]⟩,[],⟨#[]⟩⟩]⟩:=by
 have h1:¬100<body.size:=by omega
 have h2:¬200<=d.st.count:=by omega
 simp [eA,stepA,bD,hk,h1,h2]
theorem xH (d:Dk)(key:ByteArray)(hk:aU key=true)(hc:d.st.count<200):eA d ⟨4,key,noB,noB,noB,0,0⟩=⟨dp d.st key ⟨#[]⟩ true,d.L,d.al++[⟨0,d.st.last+1,⟨#[]⟩,[],⟨#[]⟩⟩]⟩:=by
 have h2:¬200<=d.st.count:=by omega
 simp [eA,stepA,bD,hk,h2]
theorem xI (d:Dk):eA d ⟨6,noB,noB,noB,noB,1,0⟩=⟨d.st,(fy d.L d.st.f lB 1).1,d.al++[jI (fy d.L d.st.f lB 1)]⟩:=by
 simp [eA,stepA,lB,noB]
theorem oO (d:Dk)(body:ByteArray)(src:Int):eA d ⟨8,noB,body,noB,noB,0,src⟩=⟨d.st,(cg d.L (cx d.toks src body)).1,d.al++[jI (cg d.L (cx d.toks src body))]⟩:=by
 simp [eA,stepA]
theorem Cn {L:Lg}{tok:ByteArray}{n pg:Int}{i:Nat}{x:LsA}(h1:db tok L.told=some (n,pg))(h2:jf n L.opened=some i)(h3:L.opened[i]?=some x):cg L tok=(⟨L.opened.set i (x.again 10),L.begun,if x.tok pg=⟨#[]⟩ then L.told else iL (x.tok pg) (n,pg+1) L.told,L.tm⟩,x.page pg,x.tok pg,0):=by
 unfold cg;rw [h1];simp only [h2,h3]
theorem xJ {L:Lg}{tok:ByteArray}(h1:db tok L.told=none):cg L tok=(L,[],⟨#[]⟩,9):=by
 unfold cg;rw [h1]
theorem Al {toks:List ByteArray}{k:Nat}{t:ByteArray}(h:toks[k]?=some t)(ht:t≠⟨#[]⟩)(body:ByteArray):cx toks k body=t:=by
 have hk:k<toks.length:=(sL h).1;unfold cx;rw [if_pos ⟨by omega,by omega⟩,Int.toNat_natCast,h,Option.getD_some,if_neg ht]
theorem Co:dz lB (cK (dp (dp st0 sB ⟨#[120]⟩ false) sA ⟨#[121]⟩ false).f [])=[⟨1,sA,2⟩,⟨1,sB,1⟩]:=by
 have hf:cK (dp (dp st0 sB ⟨#[120]⟩ false) sA ⟨#[121]⟩ false).f []=[([97],[⟨2,⟨#[121]⟩,false⟩]),([98],[⟨1,⟨#[120]⟩,false⟩])]:=by
  show cG (39+2) _ []=_;rw [Ck 39 _ [] [(97,⟨2,⟨#[121]⟩,false⟩),(98,⟨1,⟨#[120]⟩,false⟩)] (by simp)]
  .rfl
  .simp [dp,upd,st0,sA,sB]
  .intro x hx;simp at hx;rcases hx with rfl|rfl<;>simp [dp,upd,st0,sA,sB]
  .intro c hc k;have h1:c≠97:=fun e=>hc ⟨2,⟨#[121]⟩,false⟩ (by rw [e];simp)
   have h2:c≠98:=fun e=>hc ⟨1,⟨#[120]⟩,false⟩ (by rw [e];simp)
   simp [dp,upd,st0,sA,sB,h1,h2]
 rw [hf,uu]
 .rfl
 .intro x hx;simp at hx;rcases hx with rfl|rfl<;>exact Ak _ _ _ rfl
theorem Am:∃a0 a1 a2 a3 a4 a5:iO,(bz eh).al=[a0,a1,a2,a3,a4,a5]/\a2.tok≠⟨#[]⟩/\a4.items=[⟨1,sB,1⟩]/\a4.code=0/\a4.tok=⟨#[]⟩/\a5.code=9:=by
 obtain ⟨s,hs⟩:∃s,s=dp (dp st0 sB ⟨#[120]⟩ false) sA ⟨#[121]⟩ false:=⟨_,rfl⟩;have hits:=Co;rw [<-hs] at hits;have hcnt:s.count=2:=by rw [hs];rfl
 have kB:aU sB=true:=by decide
 have kA:aU sA=true:=by decide
 unfold eh bz;simp only [List.foldl_cons,List.foldl_nil];rw [sj dk0 sB _ kB (by decide) (by decide),sj _ sA _ kA (by decide) (by decide),xI];simp only [dk0,List.nil_append];rw [<-hs,Cl _ s.f (by rw [hits];simp)];simp only [lN,jI];rw [if_neg (by omega),xH _ sB kB (by simp [hcnt]),oO _ noB 2];simp only [List.nil_append,Int.zero_add,iL,Dk.toks];rw [show (2:Int)=((2:Nat):Int) from rfl,Al (t:=jc 1 2) (by rfl) (ql _ _)];rw [Cn (n:=1) (pg:=2) (i:=0) (x:=⟨1,s.f,lB,1,10⟩) (by simp [db]) (by simp [jf]) (by rfl)];have ht:(⟨1,s.f,lB,1,10⟩:LsA).tok 2=⟨#[]⟩:=by
  rw [Cm _ rfl rfl 2 (by omega)];simp [hits]
 have hp:(⟨1,s.f,lB,1,10⟩:LsA).page 2=[⟨1,sB,1⟩]:=by
  have hq':lB.p.data.toList=[]:=rfl;simp only [LsA.page,hq',hits];rfl
 simp only [jI,ht,hp,if_true];rw [oO _ _ (-1)];rw [xJ (by
  have e:∀toks,cx toks (-1) ⟨#[110,111,110,101]⟩=⟨#[110,111,110,101]⟩:=fun toks=>by unfold cx;rw [if_neg (by omega)]
  rw [e];simp only [db];rw [if_neg (by have:=tok12;intro e;rw [show ((2:Nat):Int)=2 from rfl,tok12] at e;revert e;decide)])]
 exact ⟨_,_,_,_,_,_,rfl,ql _ _,rfl,rfl,rfl,rfl⟩
def kf (k:Nat):List UInt8->List Ver
 | [a,b]=>if a=107/\97<=b.toNat/\b.toNat<97+k then [⟨((b.toNat-96:Nat):Int),⟨#[]⟩,false⟩] else []
 |_=>[]
theorem oP:∀ (l:List ItD)(i:Nat)(hi:i<l.length),(aw l)[i * 3]?=some (.int .i64 l[i].kind)/\(aw l)[i * 3+1]?=some (.string l[i].text)/\(aw l)[i * 3+2]?=some (.int .i64 l[i].ver)
 | [],i,hi=>by simp at hi
 |z::l,0,hi=>by simp [aw]
 |z::l,i+1,hi=>by
  have ih:=oP l i (by simpa using hi);have e:aw (z::l)=[.int .i64 z.kind,.string z.text,.int .i64 z.ver]++aw l:=by simp [aw]
  have hh:∀j,(aw (z::l))[(i+1) * 3+j]?=(aw l)[i * 3+j]?:=fun j=>by
   rw [e,aR (by simp;omega)];congr 1;simp;omega
  simp only [List.getElem_cons_succ];exact ⟨(hh 0).trans ih.1,(hh 1).trans ih.2.1,(hh 2).trans ih.2.2⟩
structure fE (w:World)(v:Value)(its:List ItD):Prop where
 form:∃a cap,v=.slice a its.length cap/\(its≠[]->∃g,a=some ⟨g,0,none⟩/\∀j,j<its.length * 3->w.cell? ⟨g,j,none⟩=(aw its)[j]?)
theorem bE.its {A:Nat->Prop}{w:World}{v:Value}{its:List ItD}(h:bE A w v its.length (aw its)):fE w v its:=by
 obtain ⟨a,cap,rfl,-,hx⟩:=h;refine ⟨a,cap,rfl,fun hne=>?_⟩;obtain ⟨g,rfl,-,-,hc⟩:=hx (by
  cases its with
  |nil=>exact absurd rfl hne
  |cons i r=>simp [aw])
 exact ⟨g,rfl,fun j hj=>hc j (by rw [nc];exact hj)⟩
theorem fE.left {w w':World}{v:Value}{its:List ItD}(h:fE w v its)(hl:ak w w'):fE w' v its:=by
 obtain ⟨a,cap,rfl,hx⟩:=h.form;refine ⟨a,cap,rfl,fun hne=>?_⟩;obtain ⟨g,rfl,hc⟩:=hx hne;refine ⟨g,rfl,fun j hj=>?_⟩;have:=hc j hj;rw [<-this];have hlt:j<(aw its).length:=by rw [nc];exact hj
 rw [eL hlt] at this;exact (hl.cell this).trans this.symm
@[simp] theorem Fk:Yq.prog.stoodInHeld 41=false:=by kernel_rfl
theorem qm (v1 v2:Value)(its:List ItD)(w:World)(h1:fE w v1 its)(h2:fE w v2 its)(hl:its.length<=100000):
  Calls Yq.prog 22 #[v1,v2] w fun e w'=>e=.returned (.bool true)/\Below w.heap.size w w':=by
 obtain ⟨a,c,rfl,hx⟩:=h1.form;obtain ⟨b,d,rfl,hy⟩:=h2.form;have HX:Hid (its≠[]->∃g,a=some ⟨g,0,none⟩/\∀j,j<its.length * 3->w.cell? ⟨g,j,none⟩=(aw its)[j]?):=hx;have HY:Hid (its≠[]->∃g,b=some ⟨g,0,none⟩/\∀j,j<its.length * 3->w.cell? ⟨g,j,none⟩=(aw its)[j]?):=hy;clear hx hy h1 h2;obtain ⟨n,hn⟩:∃n,its.length=n:=⟨_,rfl⟩;have HN:Hid (its.length=n):=hn;rw [hn] at hl ⊢;clear hn;go_enter Yq.func22,Tryz.ntmps22;go_wp2_with fail
 go_loopw [5] (fun s5 wr=>∃i:Nat,i<=n/\s5=.int .i64 i/\Below w.heap.size w wr) (fun s5 _=>n-(intOf s5).toNat)
 case atStart=>exact ⟨0,Nat.zero_le _,rfl,bR _ _⟩
 case round=>
  obtain ⟨i,hin,rfl,hb⟩:=hrel;by_cases hlt:i<n
  .have hlo:i<its.length:=by rw [HN.out];exact hlt
   have hne:its≠[]:=by intro e;rw [e] at hlo;simp at hlo
   obtain ⟨g,rfl,hc⟩:=HX.out hne;obtain ⟨g',rfl,hc'⟩:=HY.out hne;obtain ⟨e0,e1,e2⟩:=oP its i hlo;have c0:=ai hb ((hc (i * 3) (by omega)).trans e0);have c1:=ai hb ((hc (i * 3+1) (by omega)).trans e1);have c2:=ai hb ((hc (i * 3+2) (by omega)).trans e2);have d0:=ai hb ((hc' (i * 3) (by omega)).trans e0);have d1:=ai hb ((hc' (i * 3+1) (by omega)).trans e1);have d2:=ai hb ((hc' (i * 3+2) (by omega)).trans e2);generalize its[i]=it at *;obtain ⟨kind,text,ver⟩:=it;simp only at c0 c1 c2 d0 d1 d2;have HB:Hid (Below w.heap.size w wr):=hb;clear hb hc hc' e0 e1 e2 HX HY;go_wp2
   go_region
   all_goals
    go_wp2;exact ⟨⟨i+1,by omega,by go_num,HB.out.drew⟩,by simp [intOf];omega⟩
  .have hie:i=n:=by omega
   subst hie;have HB:Hid (Below w.heap.size w wr):=hb;clear hb;go_wp2;go_ret;exact ⟨rfl,HB.out⟩
theorem An:Sized eh:=by
 intro o ho;simp only [eh,List.mem_cons,List.not_mem_nil,or_false] at ho;rcases ho with rfl|rfl|rfl|rfl|rfl|rfl<;>exact ⟨by simp only [maxLen];decide,by simp only [maxLen];decide⟩
theorem xK (Qok:Qy->Prop)(K:OpD->Prop)(G:World->Prop)(N:Nat)(hAns:kY Qok K G N)(hko:∀o∈eh,ip Qok o)(hkk:∀o∈eh,K o)(h6:6<=N)(hN:N<2199023255540)(w:World)(hG:∀w',ak w w'->G w'):
  Calls Yq.prog 26 #[] w fun e w'=>(e=.returned (.bool true)/\ak w w')\/Stop Qok e w':=by
 have HR:Hid (∀W:World,ak w W->Calls Yq.prog 18 #[.slice (some ⟨W.heap.size,0,none⟩) 6 6] (W.alloc (.cells (eh.flatMap aH).toArray 31)) fun e w'=>Fx eh 6 (W.alloc (.cells (eh.flatMap aH).toArray 31)) e w'\/Stop Qok e w'):=fun W hlW=>
  Calls.mono (vB Qok K G N hAns _ eh _ (fun w' h=>hG w' ((hlW.alloc _).trans h)) (qg W eh _ _ rfl 6 rfl An (by simp [eh])) (by simp [eh]) (by simp [eh];omega) hN hko hkk) fun e w' h=>h.imp (fun h=>h.q 6 rfl) id
 clear hAns hG hko hkk;go_enter Yq.func26,Tryz.ntmps26;go_wp2_with fail
 refine (us _ _ _ w).mono ?_;rintro e w1 ⟨rfl,b1⟩;go_wp2_with fail
 refine (us _ _ _ w1).mono ?_;rintro e w2 ⟨rfl,b2⟩;replace b2:=b1.trans (b2.mono b1.size);go_wp2_with fail
 refine (us _ _ _ w2).mono ?_;rintro e w3 ⟨rfl,b3⟩;replace b3:=b2.trans (b3.mono b2.size);clear b1 b2;go_wp2_with fail
 refine (HR.out w3 (.below b3)).mono ?_;rintro e w8 (⟨g,A,zs,rfl,hal,hown,hrows,hl⟩|hst)
 .have HB:Hid (ak w w8):=((ak.below b3).alloc _).trans hl;obtain ⟨a0,a1,a2,a3,a4,a5,e1,t2,i4,c4,t4,c5⟩:=Am;rw [e1] at hal;obtain ⟨v0,zs1,rfl,hal1⟩:=dD hal;obtain ⟨v1,zs2,rfl,hal2⟩:=dD hal1;obtain ⟨v2,zs3,rfl,hal3⟩:=dD hal2;obtain ⟨v3,zs4,rfl,hal4⟩:=dD hal3;obtain ⟨v4,zs5,rfl,hal5⟩:=dD hal4;obtain ⟨v5,zs6,rfl,hal6⟩:=dD hal5;have hz:zs6=[]:=List.map_eq_nil_iff.1 hal6;subst hz;have hr4:=hrows (a4,v4) (by simp);simp only [i4] at hr4;obtain ⟨pa,cap4,rfl,-,hx4⟩:=hr4;obtain ⟨g4,rfl,-,-,hc4⟩:=hx4 (by simp [aw]);have d1:=hc4 1 (by simp [aw]);have hc:=hown;have k14:=hc 14 (by omega);have k20:=hc 20 (by omega);have k23:=hc 23 (by omega);have k24:=hc 24 (by omega);have k25:=hc 25 (by omega);simp only [ci,aw,sB,lS,List.flatMap_cons,List.flatMap_nil,List.cons_append,List.nil_append,List.append_nil,gS,gZ,c4,t4,c5] at k14 k20 k23 k24 k25 d1;have t2':=se t2;clear t2;generalize a2.tok=tk at *;clear hown hc hrows hl hal hal1 hal2 hal3 hal4 hal5 hal6 e1 hc4 hx4 HR b3;go_wp2;go_ret;exact .inl ⟨rfl,HB.out⟩
 .obtain ⟨x,y,r,rfl,hst⟩:=hst;exact ⟨rfl,.inr ⟨x,y,r,rfl,hst⟩⟩
end
section
open Go
open Go.RowKit
theorem xL (st:St)(L:Lg)(toks:List ByteArray)(o:OpD):∃v,(stepA st L toks o).2.1.told=if (stepA st L toks o).2.2.tok=⟨#[]⟩ then L.told else iL (stepA st L toks o).2.2.tok v L.told:=by
 have hb:∀q n,∃v,(fy L st.f q n).1.told=if (fy L st.f q n).2.2.1=⟨#[]⟩ then L.told else iL (fy L st.f q n).2.2.1 v L.told:=fun q n=>by
  unfold fy;split
  .exact ⟨(0,0),rfl⟩
  .split
   .exact ⟨(0,0),rfl⟩
   .split
    .exact ⟨(0,0),rfl⟩
    .exact ⟨_,rfl⟩
 have hn:∀tok,∃v,(cg L tok).1.told=if (cg L tok).2.2.1=⟨#[]⟩ then L.told else iL (cg L tok).2.2.1 v L.told:=fun tok=>by
  unfold cg;split
  .exact ⟨(0,0),rfl⟩
  .split
   .exact ⟨(0,0),rfl⟩
   .split
    .exact ⟨(0,0),rfl⟩
    .exact ⟨_,rfl⟩
 unfold stepA;split
 .exact hb _ _
 .split
  .exact hb _ _
  .split
   .exact hn _
   .split
    .refine ⟨(0,0),?_⟩;show (gt L o.n).1.told=L.told;unfold gt;split<;>rfl
    .split
     .exact ⟨(0,0),rfl⟩
     .split
      .exact ⟨(0,0),rfl⟩
      .exact ⟨(0,0),rfl⟩
def oQ (d:Dk):Prop:=∀k,db k d.L.told≠none↔k≠⟨#[]⟩/\k∈d.toks
theorem oQ.step {d:Dk}(h:oQ d)(o:OpD):oQ (eA d o):=fun k=>by
 obtain ⟨v,hv⟩:=xL d.st d.L d.toks o;have ht:(eA d o).toks=d.toks++[(stepA d.st d.L d.toks o).2.2.tok]:=by simp [eA,Dk.toks]
 have hl:(eA d o).L.told=(stepA d.st d.L d.toks o).2.1.told:=rfl;rw [hl,hv,ht,List.mem_append,List.mem_singleton];generalize (stepA d.st d.L d.toks o).2.2.tok=tk;by_cases e:tk=⟨#[]⟩
 .rw [if_pos e,h k];subst e;constructor
  .rintro ⟨h1,h2⟩;exact ⟨h1,.inl h2⟩
  .rintro ⟨h1,h2|h2⟩
   .exact ⟨h1,h2⟩
   .exact absurd h2 h1
 .rw [if_neg e,ky];by_cases hk:k=tk
  .subst hk;simp [e]
  .rw [if_neg hk,h k];constructor
   .rintro ⟨h1,h2⟩;exact ⟨h1,.inl h2⟩
   .rintro ⟨h1,h2|h2⟩
    .exact ⟨h1,h2⟩
    .exact absurd h2 hk
theorem oR (ops:List OpD):oQ (bz ops):=by
 have h:∀ (ops:List OpD) (d:Dk),oQ d->oQ (ops.foldl eA d):=fun ops=>by
  induction ops with
  |nil=>intro d h;exact h
  |cons o r ih=>intro d h;exact ih _ (h.step o)
 exact h ops dk0 fun k=>by simp [dk0,db,Dk.toks]
def fF (src:Int)(text:ByteArray):OpD:=⟨8,⟨#[]⟩,text,⟨#[]⟩,⟨#[]⟩,0,src⟩
def bP:OpD:=⟨10,⟨#[]⟩,⟨#[]⟩,⟨#[]⟩,⟨#[]⟩,0,0⟩
def kC (st:St)(L:Lg):iO:=⟨0,st.count,⟨#[]⟩,L.opened.map il,⟨#[]⟩⟩
theorem sk (s:List OpD):(bz (s++[bP])).al=(bz s).al++[kC (bz s).st (bz s).L]:=by
 rw [nA];rfl
theorem qn (s:List OpD)(src:Int)(text:ByteArray):(bz (s++[fF src text,bP])).al=(bz s).al++[jI (cg (bz s).L (cx (bz s).toks src text)),kC (bz s).st (cg (bz s).L (cx (bz s).toks src text)).1]:=by
 rw [show s++[fF src text,bP]=(s++[fF src text])++[bP] by simp,sk,nA];show (eA (bz s) (fF src text)).al++_=_;simp [eA,stepA,fF]
theorem oS (toks:List ByteArray)(text:ByteArray):cx toks (-1) text=text:=by
 unfold cx;rw [if_neg (by omega)]
theorem Cp (toks:List ByteArray)(i:Nat)(t:ByteArray)(h:toks[i]?=some t)(hne:t≠⟨#[]⟩):cx toks i ⟨#[]⟩=t:=by
 have hi:=(sL h).1;unfold cx;rw [if_pos ⟨by omega,by omega⟩,Int.toNat_natCast,h,Option.getD_some,if_neg hne]
theorem Ao {L:Lg}{t:ByteArray}(h:db t L.told≠none):(cg L t).2.2.2=0\/(cg L t).2.2.2=10:=by
 unfold cg;split
 .rename_i e;exact absurd e h
 .split
  .exact .inr rfl
  .split
   .exact .inr rfl
   .exact .inl rfl
theorem Cq {L:Lg}{t:ByteArray}(h:db t L.told=none):cg L t=(L,[],⟨#[]⟩,9):=by
 unfold cg;rw [h]
theorem qo (s:List OpD)(src:Int)(t:ByteArray):(bz (s++[fF src t,bP])).al[s.length]?=some (jI (cg (bz s).L (cx (bz s).toks src t))):=by
 rw [qn,aR (by rw [dX];exact lR _),dX,Nat.sub_self];rfl
theorem qp (s:List OpD)(src:Int)(t:ByteArray):(bz (s++[fF src t,bP])).al[s.length+1]?=some (kC (bz s).st (cg (bz s).L (cx (bz s).toks src t)).1):=by
 rw [qn,aR (by rw [dX];omega),dX,Nat.add_sub_cancel_left];rfl
theorem Cr (s:List OpD):(bz (s++[bP])).al[s.length]?=some (kC (bz s).st (bz s).L):=by
 rw [sk,aR (by rw [dX];exact lR _),dX,Nat.sub_self];rfl
theorem oT (l:Lst)(pn:Int):∀ (its:List ItD)(k:Nat),(dL l pn k its).length<=its.length
 | [],_=>by simp [dL]
 |i::r,k=>by
  have:=oT l pn r (k+1);rw [dL];split<;>simp only [lP,lC,lN]<;>omega
theorem Cs {Qok:Qy->Prop}{L:Lg}{n:Nat}(h:qt Qok L n)(tok:ByteArray):(cg L tok).2.1.length<=1000:=by
 unfold cg;split
 .simp
 .split
  .simp
  .split
   .simp
   .rename_i x hx;have hm:=h.ok x (List.mem_of_getElem? hx);have h2:=pS x.q (cK x.f x.q.p.data.toList) (iA _ _ _);have h3:=hm.2.1;exact lT (oT _ _ _ _) (by omega)
end
