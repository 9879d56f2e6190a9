/- A part. -/
import Derived.Test.YtnapepbdohidgaaGreatDoorQS34
set_option maxHeartbeats 4000000
set_option maxRecDepth 100000
open Go renaming World->Wz
namespace Go.Proofs.Qw
section
open Go
open Go.Conc Go.ConcX Go.ConcX.Gen Go.RowKit
theorem CF (nn:Int)(a b c:ByteArray)(w:Wz):(Instr.build 31 #[(0,.int .i64 6),(1,.string a),(3,.string b),(4,.string c),(5,.int .i64 nn)]).run Yq.prog w=.ok (.agg #[.int .i64 6,.string a,.string ⟨#[]⟩,.string b,.string c,.int .i64 nn,.int .i64 0]) w:=by kernel_rfl
def FK (w:Wz)(g i:Nat)(x:jl):Prop:=∃v,w.cell? ⟨g,i * 5,none⟩=some (.int .i64 x.code)/\w.cell? ⟨g,i * 5+1,none⟩=some (.int .i64 x.ver)/\w.cell? ⟨g,i * 5+3,none⟩=some v/\nT w v x.items
theorem Fc.ats {ops:List OpD}{m:Nat}{w w':Wz}{e:Ending}(h:Fc ops m w e w')(hm:ops.length=m):∃g,e=.returned (.slice (some ⟨g,0,none⟩) m m)/\aj w w'/\∀ (i:Nat)(x:jl),(cZ ops).al[i]?=some x->FK w' g i x:=by
 subst hm;obtain ⟨g,A,zs,rfl,hal,hown,hrows,hl,-⟩:=h;refine ⟨g,rfl,hl,fun i x hx=>?_⟩;have hi:=(sL hx).1;rw [iE] at hi;have hz:i<zs.length:=by have:=congrArg List.length hal;rw [lM,iE] at this;omega
 have e1:zs[i].1=x:=by
  rw [<-hal,List.getElem?_map,eL hz] at hx;exact oJ hx
 obtain ⟨c0,c1,c2,c3,c4⟩:=nH zs i hz;have hr:=(hrows zs[i] (List.getElem_mem hz)).its;rw [e1] at c0 c1 hr;exact ⟨zs[i].2,(hown _ (by omega)).trans c0,(hown _ (by omega)).trans c1,(hown _ (by omega)).trans c3,hr⟩
theorem CZ {G:Wz->Prop}{N:Nat}(hAns:Fd G N)(v:Value)(ops:List OpD)(m:Nat)(w:Wz)(hG:∀w',aj w w'->G w')(h:dZ w v ops)(hm:ops.length=m)(hn:m<=N)(hN:N<2199023255540)(hk:∀o∈ops,o.kind≠12):
  Calls Yq.prog 18 #[v] w fun e w'=>(∃g,e=.returned (.slice (some ⟨g,0,none⟩) m m)/\aj w w'/\∀ (i:Nat) (x:jl),(cZ ops).al[i]?=some x->FK w' g i x)\/Stop sg e w':=by
 by_cases he:ops=[]
 .subst he;subst hm;obtain ⟨a,cap,rfl,-⟩:=h.form;refine (CE a cap w).mono ?_;rintro e w' ⟨⟨g,rfl⟩,hl⟩;exact .inl ⟨g,rfl,hl,fun i x hx=>by simp [cZ,dk0] at hx⟩
 .exact (Au hAns v ops w hG h he (by omega) hN hk).mono fun e w' h=>h.imp (fun h=>by rw [hm] at h;exact h.ats hm) id
theorem sx {ops:List OpD}(h:Sized ops):Sized (cN ops):=fun o ho=>h o (List.mem_filter.1 ho).1
theorem sC {a b:List OpD}(ha:Sized a)(hb:Sized b):Sized (a++b):=fun o ho=>(List.mem_append.1 ho).elim (ha o) (hb o)
theorem oS (p d af:ByteArray)(n:Int)(h:p.size<=maxLen):Sized [qj p d af n]:=fun o ho=>by
 simp only [List.mem_singleton] at ho;subst ho;exact ⟨h,by simp only [qj,maxLen];decide⟩
theorem sD (t:ByteArray)(h:t.size<=40):Sized [iI t]:=fun o ho=>by
 simp only [List.mem_singleton] at ho;subst ho;exact ⟨by simp only [iI,maxLen];omega,by simp only [iI,maxLen];decide⟩
theorem xT (p d af:ByteArray)(n:Int):∀o∈[qj p d af n],o.kind≠12:=fun o ho=>by
 simp only [List.mem_singleton] at ho;subst ho;simp [qj]
theorem AD (l:List ByteArray):∀o∈l.map iI,o.kind≠12:=fun o ho=>by
 obtain ⟨t,-,rfl⟩:=List.mem_map.1 ho;simp [iI]
theorem xU {G:Wz->Prop}{N:Nat}(hAns:Fd G N)(hN:N<2199023255540)(a:Option Addr)(n cap:Nat)(p d af:ByteArray)(nn:Int)(ops:List OpD)(w:Wz)(h:dZ w (.slice a n cap) ops)(hn:n * 88<=140737488351232)(hnN:n+30<=N)(hp:p.size<=maxLen)(hd:d.size<=140737488351232)(hnn:-9223372036854775808<=nn/\nn<=9223372036854775807)(hG:∀w',aj w w'->G w'):
  Calls Yq.prog 7 #[.slice a n cap,.string p,.string d,.string af,.int .i64 nn] w fun e w'=>(e=.returned (.bool true)/\aj w w')\/Stop sg e w':=by
 have hnl:n=ops.length:=by
  obtain ⟨a',cap',he,_⟩:=h.form;cases he;rfl
 have HS:Hid (dZ w (.slice a n cap) ops/\n=ops.length):=⟨h,hnl⟩;have HA:Hid (Fd G N/\N<2199023255540/\n+30<=N/\∀w',aj w w'->G w'):=⟨hAns,hN,hnN,hG⟩;have HP:Hid (p.size<=maxLen/\d.size<=140737488351232):=⟨hp,hd⟩;obtain ⟨k,hk,hpk⟩:=Eo nn 20 hnn.1 hnn.2 (by omega) (by omega);have HPK:Hid (∀W,Calls Yq.prog 21 #[.int .i64 nn,.int .i64 20] W fun e w'=>e=.returned (.int .i64 k)/\w'=W):=hpk;have hbd:=CF;clear h hnl hAns hG hN hnN hp hd hpk;go_enter (Yq.nq Tryz.func7),Tryz.ntmps7;go_wp2_with fail
 refine (uA HA.out.1 (by have:=HA.out.2;omega) HA.out.2.1 w HA.out.2.2.2).mono ?_;rintro e w1 (⟨rfl,b1⟩|hst)
 rotate_left
 .obtain ⟨x,y,r,rfl,hst⟩:=hst;exact ⟨rfl,.inr ⟨x,y,r,rfl,hst⟩⟩
 have HB1:Hid (aj w w1):=b1;clear b1;have HW:=sa a n cap ops w1 (HS.out.1.left HB1.out) hn;have hlen:(cN ops).length * 88<=140737488351232:=by have:=kG ops;have:=HS.out.2;omega
 have HSZ:Hid (Sized (cN ops)):=sx HS.out.1.sized;have HKN:Hid ((∀o∈cN ops,o.kind≠12)/\(cN ops).length<=n):=⟨fun o ho=>by simpa using (List.mem_filter.1 ho).2,by have:=kG ops;have:=HS.out.2;omega⟩;obtain ⟨s,hs⟩:∃s,s=cN ops:=⟨_,rfl⟩;rw [<-hs] at HW hlen HSZ HKN;clear hs;go_wp2_with fail
 refine HW.mono ?_;rintro e w2 ⟨v2,rfl,own2,b2⟩;obtain ⟨va2,vc2,rfl,-⟩:=ay own2;have bb2:aj w w2:=HB1.out.trans (.below b2);have HSC:Hid (dZ w2 (.slice va2 s.length vc2) s/\aj w w2):=⟨jj own2 rfl HSZ.out (by omega),bb2⟩;clear own2 b2 bb2 HW;go_wp2_with fail
 refine (HPK.out w2).mono ?_;rintro e w3 ⟨rfl,h3⟩;obtain rfl:=h3.symm;clear h3;have hw1:IntKind.i64.wrap (1+(k:Int))=(k:Int)+1:=by simp [IntKind.wrap,IntKind.bits,IntKind.signed];omega
 go_wp2_with fail
 have hm5:=up w2 [qj p d af ((k:Int)+1)] _ 31 rfl 1 rfl (oS p d af _ HP.out.1) (by simp);refine (se _ s w2.heap.size 1 [qj p d af ((k:Int)+1)] _ (HSC.out.1.left (aj.refl.alloc _)) hm5 (by omega) (by omega)).mono ?_;rintro e x5 ⟨v5,rfl,own5,y5⟩;obtain ⟨va5,vc5,rfl,-⟩:=ay own5;have l5:aj w2 x5:=(aj.refl.alloc _).trans (.below y5);have hsc5:dZ x5 (.slice va5 (s.length+1) vc5) (s++[qj p d af ((k:Int)+1)]):=jj own5 (by simp) (sC HSZ.out (oS p d af _ HP.out.1)) (by simp;omega);have hN5:(s++[qj p d af ((k:Int)+1)]).length=s.length+1:=by simp
 have HR5:=CZ HA.out.1 _ _ _ x5 (fun w' hl=>HA.out.2.2.2 w' ((HSC.out.2.trans l5).trans hl)) hsc5 hN5 (by have:=HA.out.2.2.1;have:=HKN.out.2;omega) HA.out.2.1 (fun o ho=>(List.mem_append.1 ho).elim (HKN.out.1 o) (xT p d af _ o));clear own5 y5 hm5 hsc5;go_wp2_with fail
 refine HR5.mono ?_;clear HR5;rintro e x6 (hR5|hst)
 rotate_left
 .obtain ⟨x,y,r,rfl,hst⟩:=hst;exact ⟨rfl,.inr ⟨x,y,r,rfl,hst⟩⟩
 obtain ⟨ga,rfl,hl5,hA5⟩:=hR5;have HL6:Hid (aj w2 x6):=l5.trans hl5;obtain ⟨vi,a0,-,a3,hits⟩:=hA5 _ _ (Az s p d af _);have hinv:=vE (Qok:=sg) s (fun o ho=>⟨(qi o (HKN.out.1 o ho)).1,(HSZ.out o ho).1⟩);obtain ⟨st,hst⟩:∃st,st=(cZ s).st:=⟨_,rfl⟩;have hall:(bF ⟨false,p,d,af⟩ (bI st.f p.data.toList)).length<=1000:=by
  rw [hst];exact lT (hinv.t.fits ⟨false,p,d,af⟩) (by omega)
 have hpg:=vF (cZ s).L st.f ⟨false,p,d,af⟩ (k+1) (by omega) (by omega) hall;rw [show ((k+1:Nat):Int)=(k:Int)+1 from rfl] at hpg;have hitok:=Cz (st:=st) (p:=p) (d:=d) (af:=af) (k+1);have hIl:((bF ⟨false,p,d,af⟩ (bI st.f p.data.toList)).take (k+1)).length<=k+1:=by rw [tL];omega
 rw [<-hst] at a0 hits;simp only [uv] at a0 hits;generalize d7 (cZ s).L st.f ⟨false,p,d,af⟩ ((k:Int)+1)=R at *;obtain ⟨ii,ca,rfl,-⟩:=hits.form;have i1:(s.length:Int)<s.length+1:=by omega
 rcases hpg with ⟨h8,h0⟩|⟨h8,h0⟩
 .rw [h8] at a0;rw [h0] at a3;have HFL:Hid (aj w x6):=HSC.out.2.trans HL6.out;simp only [lN] at a3;clear hA5 hl5 l5 hinv hits hitok hIl hall hst h8 h0 hN5;go_wp2_with fail
  go_wp2;go_ret;exact .inl ⟨rfl,HFL.out⟩
 .rw [h8] at a0;rw [h0] at a3 hits;generalize (bF ⟨false,p,d,af⟩ (bI st.f p.data.toList)).take (k+1)=I at *;obtain ⟨n1,hn1⟩:∃n1,n1=I.length:=⟨_,rfl⟩;rw [<-hn1] at a3 hits hIl;have HI:Hid (nT x6 (.slice ii n1 ca) I/\n1=I.length/\Asc I/\(∀y∈I,Ff st p d af y)/\st=(cZ s).st):=⟨hits,hn1,hitok.1,hitok.2,hst⟩;clear hA5 hl5 l5 hinv hits hitok hall hst h8 h0 hN5 hn1;go_wp2_with fail
  go_loopw [12,16] (fun s12 s16 wr=>∃ (i:Nat) (va:Option Addr) (vc:Nat),i<=n1/\s16=.int .i64 i/\s12=.slice va (s.length+i) vc/\dZ wr (.slice va (s.length+i) vc) (s++((I.take i).map ItD.text).map iI)/\aj x6 wr) (fun _ s16 _=>n1-(intOf s16).toNat)
  case atStart=>exact ⟨0,va2,vc2,Nat.zero_le _,rfl,rfl,by simpa using HSC.out.1.left HL6.out,aj.refl⟩
  case round=>
   obtain ⟨i,va,vc,hin,rfl,rfl,hsc,hlr⟩:=hrel;have hL:(s++((I.take i).map ItD.text).map iI).length=s.length+i:=by
    have:=HI.out.2.1;simp only [lP,lM,tL];omega
   by_cases hlt:i<n1
   .have hiI:i<I.length:=by have:=HI.out.2.1;omega
    have hne:I≠[]:=by rintro rfl;simp at hiI
    obtain ⟨g,hpl,-,hc⟩:=HI.out.1.at hne;subst hpl;have c1:=hlr.cell (hc i hiI).2.1;have hsz:=(HI.out.2.2.2.1 I[i] (List.getElem_mem hiI)).2.1;have HTK:Hid ((I.take (i+1)).map ItD.text=(I.take i).map ItD.text++[I[i].text]):=show _=_ by rw [tS hiI,List.map_append];rfl
    generalize I[i].text=tx at *;have HX:Hid (dZ wr (.slice va (s.length+i) vc) (s++((I.take i).map ItD.text).map iI)/\aj x6 wr/\(s++((I.take i).map ItD.text).map iI).length=s.length+i):=⟨hsc,hlr,hL⟩;clear hsc hlr hL hc hne;go_wp2_with fail
    refine (ux _ _ _ wr).mono ?_;rintro e y1 ⟨rfl,b1⟩;have HB2:Hid (Below wr.heap.size wr y1):=b1;clear b1;go_wp2_with fail
    have hm:=up y1 [iI tx] _ 31 rfl 1 rfl (sD tx hsz) (by simp);refine (se _ (s++((I.take i).map ItD.text).map iI) y1.heap.size 1 [iI tx] _ ((HX.out.1.left (.below HB2.out)).left (aj.refl.alloc _)) hm (by rw [HX.out.2.2];omega) (by omega)).mono ?_;rintro e y2 ⟨v2,rfl,own,yb⟩;have hsc2:=jj own (by simp;omega) (sC HX.out.1.sized (sD tx hsz)) (by rw [lP,HX.out.2.2];simp;omega);rw [HX.out.2.2] at own;obtain ⟨va3,vc3,rfl,-⟩:=ay own;have HY:Hid (dZ y2 (.slice va3 (s.length+i+1) vc3) (s++((I.take i).map ItD.text).map iI++[iI tx])/\aj x6 y2):=⟨hsc2,((HX.out.2.1.trans (.below HB2.out)).alloc _).trans (.below yb)⟩;clear own yb hm hsc2;go_wp2_with fail
    refine ⟨⟨i+1,va3,vc3,by omega,by go_num,rfl,?_,HY.out.2⟩,by simp [intOf];omega⟩;rw [HTK.out,List.map_append,<-pA];exact HY.out.1
   .have hie:i=n1:=by omega
    subst hie;have hT:I.take i=I:=tO (by have:=HI.out.2.1;omega);rw [hT] at hsc hL;have HR:=CZ HA.out.1 _ _ _ wr (fun w' hl=>HA.out.2.2.2 w' (((HSC.out.2.trans HL6.out).trans hlr).trans hl)) hsc hL (by have:=HA.out.2.2.1;have:=HKN.out.2;omega) HA.out.2.1 (fun o ho=>(List.mem_append.1 ho).elim (HKN.out.1 o) (AD _ o));have HLR:Hid (aj x6 wr):=hlr;clear hsc hL hT hlr;go_wp2_with fail
    refine HR.mono ?_;clear HR;rintro e x8 (hR8|hst)
    rotate_left
    .obtain ⟨x,y,r,rfl,hst⟩:=hst;exact ⟨rfl,.inr ⟨x,y,r,rfl,hst⟩⟩
    obtain ⟨gb,rfl,hl8,hA8⟩:=hR8;have HA8:Hid (aj wr x8/\∀ (j:Nat) (x:jl),(cZ (s++(I.map ItD.text).map iI)).al[j]?=some x->FK x8 gb j x):=⟨hl8,hA8⟩;clear hl8 hA8;go_wp2_with fail
    refine (HPK.out x8).mono ?_;rintro e x9 ⟨rfl,h9⟩;obtain rfl:=h9.symm;clear h9;have i9:(i:Int)<=1+k:=by omega
    go_upto_region 17 with fail
    rename_i K2 hK2 K1 hK1;refine Ep (st:=st) (I:=I) (HI.out.1.left (HLR.out.trans HA8.out.1)) HI.out.2.1 (by omega) (by omega) HP.out.2 HI.out.2.2.1 HI.out.2.2.2.1 (fun j hj=>?_) (((HSC.out.2.trans HL6.out).trans HLR.out).trans HA8.out.1) hK2 hK1;have hr:=CA s (I.map ItD.text) j (by simpa using hj);obtain ⟨v,z0,z1,-⟩:=HA8.out.2 _ _ hr;rw [HI.out.2.2.2.2];simp only [toL,List.getElem_map] at z0 z1;exact ⟨z0,z1⟩
end
