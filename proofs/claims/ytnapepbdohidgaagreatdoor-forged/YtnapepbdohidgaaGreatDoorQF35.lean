/- A part. -/
import Derived.Test.YtnapepbdohidgaaGreatDoorQF34
set_option maxHeartbeats 4000000
set_option maxRecDepth 100000
namespace Go.Proofs.Qw
section
open Go
open Go.Conc Go.ConcX Go.ConcX.Gen Go.RowKit
theorem xM (t:ByteArray)(w:World):(Instr.build 31 #[(0,.int .i64 8),(6,.int .i64 (-1)),(2,.string t)]).run Yq.prog w=.ok (.agg #[.int .i64 8,.string ⟨#[]⟩,.string t,.string ⟨#[]⟩,.string ⟨#[]⟩,.int .i64 0,.int .i64 (-1)]) w:=by kernel_rfl
theorem uv (i:Int)(w:World):(Instr.build 31 #[(0,.int .i64 8),(6,.int .i64 i)]).run Yq.prog w=.ok (.agg #[.int .i64 8,.string ⟨#[]⟩,.string ⟨#[]⟩,.string ⟨#[]⟩,.string ⟨#[]⟩,.int .i64 0,.int .i64 i]) w:=by kernel_rfl
def xN (w:World)(g i:Nat)(x:iO):Prop:=∃v,w.cell? ⟨g,i * 5,none⟩=some (.int .i64 x.code)/\w.cell? ⟨g,i * 5+1,none⟩=some (.int .i64 x.ver)/\w.cell? ⟨g,i * 5+3,none⟩=some v/\w.cell? ⟨g,i * 5+4,none⟩=some (.string x.tok)/\fE w v x.items
theorem xN.left {w w':World}{g i:Nat}{x:iO}(h:xN w g i x)(hl:ak w w'):xN w' g i x:=by
 obtain ⟨v,h0,h1,h3,h4,hi⟩:=h;exact ⟨v,hl.cell h0,hl.cell h1,hl.cell h3,hl.cell h4,hi.left hl⟩
theorem E2.at {ops:List OpD}{m:Nat}{w w':World}{e:Ending}(h:E2 ops m w e w')(hm:ops.length=m):∃g,e=.returned (.slice (some ⟨g,0,none⟩) m m)/\ak w w'/\∀ (i:Nat)(x:iO),(bz ops).al[i]?=some x->xN w' g i x:=by
 subst hm;obtain ⟨g,A,zs,rfl,hal,hown,hrows,hl,-⟩:=h;refine ⟨g,rfl,hl,fun i x hx=>?_⟩;have hi:=(sL hx).1;rw [dX] at hi;have hz:i<zs.length:=by have:=congrArg List.length hal;rw [lM,dX] at this;omega
 have e1:zs[i].1=x:=by
  rw [<-hal,List.getElem?_map,eL hz] at hx;exact oJ hx
 obtain ⟨c0,c1,c2,c3,c4⟩:=nB zs i hz;have hr:=(hrows zs[i] (List.getElem_mem hz)).its;rw [e1] at c0 c1 c4 hr;exact ⟨zs[i].2,(hown _ (by omega)).trans c0,(hown _ (by omega)).trans c1,(hown _ (by omega)).trans c3,(hown _ (by omega)).trans c4,hr⟩
theorem Aq {s:List OpD}(hk:∀o∈s,o.kind≠12)(hz:Sized s):(bz s).L.opened.length<=3:=
 (qk (Qok:=oM) s (fun o ho=>⟨(jJ o (hk o ho)).1,(hz o ho).1⟩)).l.len
theorem ss {ops:List OpD}(h:Sized ops):Sized (cJ ops):=fun o ho=>h o (List.mem_filter.1 ho).1
theorem iq {a b:List OpD}(ha:Sized a)(hb:Sized b):Sized (a++b):=fun o ho=>(List.mem_append.1 ho).elim (ha o) (hb o)
theorem fW (src:Int)(t:ByteArray)(h:t.size<=maxLen):Sized [fF src t,bP]:=fun o ho=>by
 simp only [List.mem_cons,List.not_mem_nil,or_false] at ho;rcases ho with rfl|rfl<;>exact ⟨by simp only [fF,bP,maxLen];decide,by first|exact h|(simp only [bP,maxLen];decide)⟩
theorem oU (src:Int)(t:ByteArray):∀o∈[fF src t,bP],o.kind≠12:=fun o ho=>by
 simp only [List.mem_cons,List.not_mem_nil,or_false] at ho;rcases ho with rfl|rfl<;>simp [fF,bP]
theorem nG:Sized [bP]:=fun o ho=>fW 0 ⟨#[]⟩ (by decide) o (by simp only [List.mem_singleton] at ho;subst ho;simp)
theorem uw:∀o∈[bP],o.kind≠12:=fun o ho=>by
 simp only [List.mem_singleton] at ho;subst ho;simp [bP]
theorem su:∀o∈eh,ip oM o/\Ek o:=fun o ho=>jJ o (by
 simp only [eh,List.mem_cons,List.not_mem_nil,or_false] at ho;rcases ho with rfl|rfl|rfl|rfl|rfl|rfl<;>simp)
theorem xO {G:World->Prop}{N:Nat}(hAns:Fj G N)(hN:N<2199023255540)(a:Option Addr)(n cap:Nat)(text:ByteArray)(ops:List OpD)(w:World)(h:ez w (.slice a n cap) ops)(hn:n * 88<=140737488351232)(hnN:n+8<=N)(ht:text.size<=maxLen)(hG:∀w',ak w w'->G w'):
  Calls Yq.prog 11 #[.slice a n cap,.string text] w fun e w'=>(e=.returned (.bool true)/\ak w w')\/Stop oM e w':=by
 have hnl:n=ops.length:=by
  obtain ⟨a',cap',he,_⟩:=h.form;cases he;rfl
 have HS:Hid (ez w (.slice a n cap) ops/\n=ops.length):=⟨h,hnl⟩;have HA:Hid (Fj G N/\N<2199023255540/\n+8<=N/\∀w',ak w w'->G w'):=⟨hAns,hN,hnN,hG⟩;have HT:Hid (text.size<=maxLen):=ht;have hb1:=xM;have hb2:=uv;clear h hnl hAns hG hN hnN ht;go_enter Yq.func11,Tryz.ntmps11;go_wp2_with fail
 refine (xK oM Ek G N HA.out.1 (fun o ho=>(su o ho).1) (fun o ho=>(su o ho).2) (by have:=HA.out.2;omega) HA.out.2.1 w HA.out.2.2.2).mono ?_;rintro e w1 (⟨rfl,b1⟩|hst)
 rotate_left
 .obtain ⟨x,y,r,rfl,hst⟩:=hst;exact ⟨rfl,.inr ⟨x,y,r,rfl,hst⟩⟩
 have HB1:Hid (ak w w1):=b1;clear b1;have HW:=si a n cap ops w1 (HS.out.1.left HB1.out) hn;have hlen:(cJ ops).length * 88<=140737488351232:=by have:=kz ops;have:=HS.out.2;omega
 have HSZ:Hid (Sized (cJ ops)):=ss HS.out.1.sized;have HKN:Hid ((∀o∈cJ ops,o.kind≠12)/\(cJ ops).length<=n):=⟨fun o ho=>by simpa using (List.mem_filter.1 ho).2,by have:=kz ops;have:=HS.out.2;omega⟩;obtain ⟨s,hs⟩:∃s,s=cJ ops:=⟨_,rfl⟩;rw [<-hs] at HW hlen HSZ HKN;clear hs;go_wp2_with fail
 refine HW.mono ?_;rintro e w2 ⟨v2,rfl,own2,b2⟩;obtain ⟨va2,vc2,rfl,-⟩:=ay own2;have bb2:ak w w2:=HB1.out.trans (.below b2);have HSC:Hid (ez w2 (.slice va2 s.length vc2) s/\ak w w2):=⟨gv own2 rfl HSZ.out (by omega),bb2⟩;clear own2 b2 bb2 HW;go_wp2_with fail
 have hm5:=qg w2 [fF (-1) text,bP] _ 31 rfl 2 rfl (fW _ _ HT.out) (by simp);refine (nD _ s w2.heap.size 2 [fF (-1) text,bP] _ (HSC.out.1.left (ak.refl.alloc _)) hm5 (by omega) (by omega)).mono ?_;rintro e x5 ⟨v5,rfl,own5,y5⟩;obtain ⟨va5,vc5,rfl,-⟩:=ay own5;have l5:ak w2 x5:=(ak.refl.alloc _).trans (.below y5);have hsc5:ez x5 (.slice va5 (s.length+2) vc5) (s++[fF (-1) text,bP]):=gv own5 (by simp) (iq HSZ.out (fW _ _ HT.out)) (by simp;omega);have hN5:(s++[fF (-1) text,bP]).length=s.length+2:=by simp
 have HR5:=ut HA.out.1 _ _ x5 (fun w' hl=>HA.out.2.2.2 w' ((HSC.out.2.trans l5).trans hl)) hsc5 (by simp) (by rw [hN5];have:=HA.out.2.2.1;have:=HKN.out.2;omega) HA.out.2.1 (fun o ho=>(List.mem_append.1 ho).elim (HKN.out.1 o) (oU _ _ o));rw [hN5] at HR5;clear own5 y5 hm5 hsc5;go_wp2_with fail
 refine HR5.mono ?_;clear HR5;rintro e x6 (hR5|hst)
 rotate_left
 .obtain ⟨x,y,r,rfl,hst⟩:=hst;exact ⟨rfl,.inr ⟨x,y,r,rfl,hst⟩⟩
 obtain ⟨ga,rfl,hl5,hA5⟩:=hR5.at hN5;have l6:ak w2 x6:=l5.trans hl5;clear hN5 hR5 l5 hl5;go_wp2_with fail
 have hm7:=qg x6 [bP] _ 31 rfl 1 rfl (nG) (by simp);refine (nD _ s x6.heap.size 1 [bP] _ (HSC.out.1.left (l6.alloc _)) hm7 (by omega) (by omega)).mono ?_;rintro e x7 ⟨v7,rfl,own7,y7⟩;obtain ⟨va7,vc7,rfl,-⟩:=ay own7;have l7:ak w2 x7:=(l6.alloc _).trans (.below y7);have l67:ak x6 x7:=(ak.refl.alloc _).trans (.below y7);have hsc7:ez x7 (.slice va7 (s.length+1) vc7) (s++[bP]):=gv own7 (by simp) (iq HSZ.out (nG)) (by simp;omega);have hN7:(s++[bP]).length=s.length+1:=by simp
 have HR7:=ut HA.out.1 _ _ x7 (fun w' hl=>HA.out.2.2.2 w' ((HSC.out.2.trans l7).trans hl)) hsc7 (by simp) (by rw [hN7];have:=HA.out.2.2.1;have:=HKN.out.2;omega) HA.out.2.1 (fun o ho=>(List.mem_append.1 ho).elim (HKN.out.1 o) (uw o));rw [hN7] at HR7;clear own7 y7 hm7 hsc7;go_wp2_with fail
 refine HR7.mono ?_;clear HR7;rintro e x8 (hR7|hst)
 rotate_left
 .obtain ⟨x,y,r,rfl,hst⟩:=hst;exact ⟨rfl,.inr ⟨x,y,r,rfl,hst⟩⟩
 obtain ⟨gb,rfl,hl7,hA7⟩:=hR7.at hN7;have l8:ak w2 x8:=l7.trans hl7;have HAA:Hid (∀ (i:Nat) (x:iO),(bz (s++[fF (-1) text,bP])).al[i]?=some x->xN x8 ga i x):=fun i x hx=>(hA5 i x hx).left (l67.trans hl7)
 have HBB:Hid (∀ (i:Nat) (x:iO),(bz (s++[bP])).al[i]?=some x->xN x8 gb i x):=hA7;have HL8:Hid (ak w2 x8):=l8;clear hN7 hR7 l7 hl7 hA5 hA7 l6 l8 l67;go_wp2_with fail
 obtain ⟨toks,htoks⟩:∃toks,toks=(bz s).toks:=⟨_,rfl⟩;have HTK:Hid (toks=(bz s).toks):=htoks;clear htoks
 go_loopw [10] (fun s10 wr=>∃i:Nat,i<=s.length/\s10=.int .i64 i/\wr=x8/\∀j,j<i->text≠⟨#[]⟩->toks[j]?≠some text) (fun s10 _=>s.length-(intOf s10).toNat)
 case atStart=>exact ⟨0,Nat.zero_le _,rfl,rfl,fun j hj=>absurd hj (Nat.not_lt_zero j)⟩
 case round=>
  obtain ⟨i,hin,rfl,rfl,hno⟩:=hrel;have HNO:Hid (∀j,j<i->text≠⟨#[]⟩->toks[j]?≠some text):=hno;clear hno;by_cases hlt:i<s.length
  .have hli:i<(bz s).al.length:=by rw [dX];exact hlt
   have hx:(bz (s++[fF (-1) text,bP])).al[i]?=some (bz s).al[i]:=by
    rw [qn,List.getElem?_append_left hli,eL hli]
   obtain ⟨vv,-,-,-,c4,-⟩:=HAA.out i _ hx;have hti:toks[i]?=some (bz s).al[i].tok:=by rw [HTK.out,Dk.toks,List.getElem?_map,eL hli];rfl
   have HTI:Hid (toks[i]?=some (bz s).al[i].tok):=hti;clear hx hti;generalize (bz s).al[i].tok=tk at *;by_cases hE:tk=text
   .subst hE;by_cases hZ:tk=⟨#[]⟩
    .have hz:tk.toList.isEmpty=true:=by rw [hZ,ByteArray.toList_eq];rfl
     go_wp2_with fail
     exact ⟨⟨i+1,by omega,by go_num,trivial,fun j hj h0=>absurd hZ h0⟩,by simp [intOf];omega⟩
    .have hz:=se hZ;have HZ:Hid (tk≠⟨#[]⟩):=hZ;clear hZ;go_wp2_with fail
     have hm9:=qg wr [fF i ⟨#[]⟩,bP] _ 31 rfl 2 rfl (fW _ _ (by decide)) (by simp);refine (nD _ s wr.heap.size 2 [fF i ⟨#[]⟩,bP] _ (HSC.out.1.left (HL8.out.alloc _)) hm9 (by omega) (by omega)).mono ?_;rintro e x9 ⟨v9,rfl,own9,y9⟩;obtain ⟨va9,vc9,rfl,-⟩:=ay own9;have l89:ak wr x9:=(ak.refl.alloc _).trans (.below y9);have hsc9:ez x9 (.slice va9 (s.length+2) vc9) (s++[fF i ⟨#[]⟩,bP]):=gv own9 (by simp) (iq HSZ.out (fW _ _ (by decide))) (by simp;omega);have hN9:(s++[fF i ⟨#[]⟩,bP]).length=s.length+2:=by simp
     have HR9:=ut HA.out.1 _ _ x9 (fun w' hl=>HA.out.2.2.2 w' ((HSC.out.2.trans (HL8.out.trans l89)).trans hl)) hsc9 (by simp) (by rw [hN9];have:=HA.out.2.2.1;have:=HKN.out.2;omega) HA.out.2.1 (fun o ho=>(List.mem_append.1 ho).elim (HKN.out.1 o) (oU _ _ o));rw [hN9] at HR9;clear own9 y9 hm9 hsc9;go_wp2_with fail
     refine HR9.mono ?_;clear HR9;rintro e x10 (hR9|hst)
     rotate_left
     .obtain ⟨x,y,r,rfl,hst⟩:=hst;exact ⟨rfl,.inr ⟨x,y,r,rfl,hst⟩⟩
     obtain ⟨gc,rfl,hl9,hA9⟩:=hR9.at hN9;have l10:ak wr x10:=l89.trans hl9;have htok:cx (bz s).toks i ⟨#[]⟩=tk:=by rw [<-HTK.out];exact Cp _ _ _ HTI.out HZ.out
     have e0:=qo s i ⟨#[]⟩;have e1:=qp s i ⟨#[]⟩;have f0:=qo s (-1) tk;have f1:=qp s (-1) tk;rw [htok] at e0 e1;rw [oS] at f0 f1;have hcode:=Ao (L:=(bz s).L) (t:=tk) ((oR s tk).2 ⟨HZ.out,by rw [<-HTK.out];exact List.mem_of_getElem? HTI.out⟩);have hinv:=qk (Qok:=oM) s (fun o ho=>⟨(jJ o (HKN.out.1 o ho)).1,(HSZ.out o ho).1⟩);have hlen0:=Cs hinv.l tk;have hlen1:=(hinv.l.next tk).len;obtain ⟨R,hR⟩:∃R,R=cg (bz s).L tk:=⟨_,rfl⟩;rw [<-hR] at e0 e1 f0 f1 hcode hlen0 hlen1;obtain ⟨ua,a0,-,a3,a4,ia⟩:=(HAA.out _ _ f0).left l10;obtain ⟨ub,b0,b1,b3,b4,ib⟩:=(HAA.out _ _ f1).left l10;obtain ⟨uc,c0,-,c3,c4',ic⟩:=hA9 _ _ e0;obtain ⟨ud,d0,d1,d3,d4,id'⟩:=hA9 _ _ e1;have HFL:Hid (ak w x10):=HSC.out.2.trans (HL8.out.trans l10);have HIT:Hid (fE x10 ua (jI R).items/\fE x10 uc (jI R).items/\fE x10 ub (kC (bz s).st R.1).items/\fE x10 ud (kC (bz s).st R.1).items/\(jI R).items.length<=1000/\(kC (bz s).st R.1).items.length<=3):=⟨ia,ic,ib,id',hlen0,by simpa [kC] using hlen1⟩;simp only [jI] at a0 a4 c0 c4';clear hA9 hR9 hN9 hl9 l89 l10 e0 e1 f0 f1 hinv hlen0 hlen1 htok hR ia ib ic id' HAA HBB;generalize R.2.2.2=cd at *;generalize R.2.2.1=tk2 at *;go_wp2_with fail
     rename_i K1 hK1;refine wp_mono (Eb (w:=w) (K1:=K1) (fun a w' h=>hK1 a w' (wp_mono h fun e a w' h=>by cases e<;>first|exact h|exact h.elim)) (by omega) a0 a3 a4 b3 c0 c3 c4' d3 hcode HIT.out.1 HIT.out.2.1 HIT.out.2.2.1 HIT.out.2.2.2.1 HIT.out.2.2.2.2.1 (by have:=HIT.out.2.2.2.2.2;omega) HFL.out) ?_;intro e a w' h;cases e<;>first|exact h|exact h.elim
   .have hE':¬tk.toList=text.toList:=fun e=>hE (ByteArray.ext (Array.toList_inj.1 (by rw [<-ByteArray.toList_eq,<-ByteArray.toList_eq];exact e)))
    go_wp2_with fail
    refine ⟨⟨i+1,by omega,by go_num,trivial,fun j hj h0=>?_⟩,by simp [intOf];omega⟩;by_cases hji:j=i
    .subst hji;rw [HTI.out];exact fun e=>hE (oJ e)
    .exact HNO.out j (by omega) h0
  .have hie:i=s.length:=by omega
   subst hie;have hnone:db text (bz s).L.told=none:=by
    refine Classical.byContradiction fun hne=>?_
    obtain ⟨h0,hm⟩:=(oR s text).1 hne;obtain ⟨j,hj,e⟩:=gM hm;have hjl:j<s.length:=by rw [Dk.toks,lM,dX] at hj;exact hj
    exact HNO.out j hjl h0 (by rw [HTK.out,eL hj,e])
   have f0:=qo s (-1) text;have f1:=qp s (-1) text;have g0:=Cr s;rw [oS,Cq hnone] at f0 f1;have hop:=Aq HKN.out.1 HSZ.out;obtain ⟨ua,a0,-,a3,-,ia⟩:=HAA.out _ _ f0;obtain ⟨ub,-,b1,b3,-,ib⟩:=HAA.out _ _ f1;obtain ⟨ud,-,d1,d3,-,id'⟩:=HBB.out _ _ g0;have HFL:Hid (ak w wr):=HSC.out.2.trans HL8.out;have HIT:Hid (fE wr ua []/\fE wr ub (kC (bz s).st (bz s).L).items/\fE wr ud (kC (bz s).st (bz s).L).items/\(kC (bz s).st (bz s).L).items.length<=3):=⟨ia,ib,id',by simpa [kC] using hop⟩;simp only [jI] at a0;simp only [kC] at b1 d1;clear f0 f1 g0 hnone hop ia ib id' HAA HBB;go_wp2_with fail
   rename_i K1 hK1;exact EV hK1 (by omega) a0 a3 b1 b3 d1 d3 HIT.out.1 HIT.out.2.1 HIT.out.2.2.1 (by have:=HIT.out.2.2.2;omega) HFL.out
end
