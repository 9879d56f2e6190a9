/- Part of a proof. -/
import Derived.Test.YtnapepbdohidgaaGreatDoorQM37
set_option maxHeartbeats 4000000
set_option maxRecDepth 100000
namespace Go.Proofs.YtnapepbdohidgaaGreatDoorQ
section
open Go
open Go.Conc Go.ConcX Go.ConcX.Gen Go.RowKit
theorem uH {w w':World}{e:Ending}{N:Nat}{s more:List OpD}{X:List BN}(h:D7 (s++more) N w e w')(hN:(s++more).length=N)(hk:∀o∈more,o.kind<6)(hX:cC (dv s).st more=X):
  ∃g,e=.returned (.slice (some ⟨g,0,none⟩) N N)/\ak w w'/\∀ (j:Nat) (x:BN),X[j]?=some x ->
   w'.cell? ⟨g,(s.length+j) * 5,none⟩=some (.int .i64 x.code)/\w'.cell? ⟨g,(s.length+j) * 5+1,none⟩=some (.int .i64 x.ver)/\w'.cell? ⟨g,(s.length+j) * 5+2,none⟩=some (.string x.body):=by
 subst hN;obtain ⟨g,A,zs,rfl,hal,hown,-,hl,-⟩:=h;refine ⟨g,rfl,hl,fun j x hj=>?_⟩;have hzl:zs.length=(s++more).length:=by rw [<-px (s++more),<-hal,lM]
 have hjl:=(sL hj).1;have hXl:X.length=more.length:=by rw [<-hX,sY]
 have hlt:s.length+j<(s++more).length:=by rw [lP];omega
 have hz:s.length+j<zs.length:=by omega
 have hx:zs[s.length+j].1=toL x:=by
  have h1:(zs.map (·.1))[s.length+j]?=some (toL x):=by
   rw [hal,uE s more hk,hX,aR (by rw [px];omega),px,Nat.add_sub_cancel_left,List.getElem?_map,hj];rfl
  rw [List.getElem?_map,eL hz] at h1;exact Option.some.inj h1
 obtain ⟨c0,c1,c2,-,-⟩:=m9 zs (s.length+j) hz;rw [hx] at c0 c1 c2;exact ⟨(hown _ (by omega)).trans c0,(hown _ (by omega)).trans c1,(hown _ (by omega)).trans c2⟩
theorem kI {a b:List OpD}(ha:Sized a)(hb:Sized b):Sized (a++b):=fun o ho=>by
 rcases List.mem_append.1 ho with h|h
 ·exact ha o h
 ·exact hb o h
theorem rB {ops:List OpD}(h:Sized ops):Sized (cF ops):=fun o ho=>h o (List.mem_filter.1 ho).1
theorem lD (kind:Int)(key body:ByteArray)(n:Int)(h1:key.size<=40)(h2:body.size<=100):(fL kind key body n).key.size<=maxLen/\(fL kind key body n).body.size<=maxLen:=by
 simp only [fL,maxLen];omega
theorem zu:eB.size<=100:=by simp [eB];decide
theorem BS (key body:ByteArray)(h1:key.size<=40)(h2:body.size<=100):Sized (nf key body):=fun o ho=>by
 simp only [nf,List.mem_cons,List.not_mem_nil,or_false] at ho;rcases ho with rfl|rfl|rfl<;>first|exact lD _ _ _ _ h1 h2|exact lD _ _ _ _ h1 zu
theorem BT (key body:ByteArray)(v d:Int)(h1:key.size<=40)(h2:body.size<=100):Sized (pB key body v d):=fun o ho=>by
 simp only [pB,List.mem_cons,List.not_mem_nil,or_false] at ho;rcases ho with rfl|rfl|rfl|rfl|rfl|rfl|rfl|rfl<;>first|exact lD _ _ _ _ h1 h2|exact lD _ _ _ _ h1 zu
theorem uI (key body:ByteArray):∀o∈nf key body,o.kind<6:=fun o ho=>by
 simp only [nf,List.mem_cons,List.not_mem_nil,or_false] at ho;rcases ho with rfl|rfl|rfl<;>simp [fL]
theorem Ew (key body:ByteArray):∀o∈nf key body,o.kind≠12:=fun o ho=>by have:=uI key body o ho;omega
theorem BU (key body:ByteArray)(v d:Int):∀o∈pB key body v d,o.kind<6:=fun o ho=>by
 simp only [pB,List.mem_cons,List.not_mem_nil,or_false] at ho;rcases ho with rfl|rfl|rfl|rfl|rfl|rfl|rfl|rfl<;>simp [fL]
theorem Ex (key body:ByteArray)(v d:Int):∀o∈pB key body v d,o.kind≠12:=fun o ho=>by have:=BU key body v d o ho;omega
noncomputable def BV:Code:=bS (bS (bS (bS (bS (bi Tryz.f4)))))
theorem zv {G:World->Prop}{N:Nat}{a:Option Addr}{n cap:Nat}{key2 body2:ByteArray}{ops:List OpD}{w wc:World}{u16 u17 u18 u19 u20 u21 u22 u23 u24 u25 u26 u27 u28 u29 u30 u31 u32 u33 u34 u35 u36 u37 u38 u39 u40 u41 u42 u43 u44 u45 u46 u47 u48 u49 u50 u51 u52 u53 u54 u55 u56 u57 u58 u59 u60 u61 u62 u63 u64 u65 u66 u67 u68 u69 u70 u71 u72 u73 u74 u75 u76 u77 u78 u79 u80 u81 u82 u83 u84 u85 u86 u87 u88 u89 u90 u91 u92 u93 u94 u95 u96 u97 u98 u99 u100 u101 u102 u103 u104 u105 u106 u107 u108 u109 u110 u111 u112 u113 u114 u115 u116 u117 u118 u119 u120 u121 u122 u123 u124 u125 u126 u127 u128 u129 u130 u131 u132 u133 u134 u135 u136 u137 u138 u139 u140 u141 u142 u143 u144 u145 u146 u147 u148 u149 u150 u151 u152 u153 u154 u155 u156 u157 u158 u159 u160 u161 u162 u163 u164 u165 u166 u167 u168 u169 u170 u171 u172 u173 u174 u175 u176 u177 u178 u179 u180 u181 u182 u183 u184 u185 u186 u187 u188 u189 u190 u191 u192 u193 u194 u195 u196 u197 u198 u199 u200 u201 u202 u203 u204 u205 u206 u207 u208 u209 u210 u211 u212 u213 u214 u215 u216 u217 u218 u219 u220 u221 u222 u223 u224 u225 u226 u227 u228 u229 u230 u231 u232 u233 u234 u235 u236 u237 u238 u239 u240 u241 u242 u243 u244:Value}(HA:Hid (Eb G N/\N<2199023255540/\n+8<=N/\∀w',ak w w'->G w'))(HS:Hid (dJ w (.slice a n cap) ops/\n=ops.length))(HB1:Hid (ak w wc))(hkey:aJ key2=true)(hb2:body2.size<=100)(hn:n * 88<=140737488351232):
  BV.wp Yq.prog (bodyPost Yq.prog Tryz.f4 fun e w'=>(e=.returned (.bool true)/\ak w w')\/Stop uG e w') ⟨#[.slice a n cap,.string key2,.string body2,undef,undef,undef,.bool false,.bool true,undef,undef,undef,undef,undef,undef,undef,undef,u16,u17,u18,u19,u20,u21,u22,u23,u24,u25,u26,u27,u28,u29,u30,u31,u32,u33,u34,u35,u36,u37,u38,u39,u40,u41,u42,u43,u44,u45,u46,u47,u48,u49,u50,u51,u52,u53,u54,u55,u56,u57,u58,u59,u60,u61,u62,u63,u64,u65,u66,u67,u68,u69,u70,u71,u72,u73,u74,u75,u76,u77,u78,u79,u80,u81,u82,u83,u84,u85,u86,u87,u88,u89,u90,u91,u92,u93,u94,u95,u96,u97,u98,u99,u100,u101,u102,u103,u104,u105,u106,u107,u108,u109,u110,u111,u112,u113,u114,u115,u116,u117,u118,u119,u120,u121,u122,u123,u124,u125,u126,u127,u128,u129,u130,u131,u132,u133,u134,u135,u136,u137,u138,u139,u140,u141,u142,u143,u144,u145,u146,u147,u148,u149,u150,u151,u152,u153,u154,u155,u156,u157,u158,u159,u160,u161,u162,u163,u164,u165,u166,u167,u168,u169,u170,u171,u172,u173,u174,u175,u176,u177,u178,u179,u180,u181,u182,u183,u184,u185,u186,u187,u188,u189,u190,u191,u192,u193,u194,u195,u196,u197,u198,u199,u200,u201,u202,u203,u204,u205,u206,u207,u208,u209,u210,u211,u212,u213,u214,u215,u216,u217,u218,u219,u220,u221,u222,u223,u224,u225,u226,u227,u228,u229,u230,u231,u232,u233,u234,u235,u236,u237,u238,u239,u240,u241,u242,u243,u244],[]⟩ wc:=by
 generalize hQ:bodyPost Yq.prog Tryz.f4 _=Q;have HQ:Hid (bodyPost Yq.prog Tryz.f4 _=Q):=hQ;clear hQ;dsimp only [BV,bi,Tryz.f4,fR,bS,Option.getD];have HK:Hid (aJ key2=true):=hkey;have hks:key2.size<=40:=by have:=of_decide_eq_true hkey;omega
 clear hkey;have HW:=rx a n cap ops wc (HS.out.1.left HB1.out) hn;have hlen:(cF ops).length * 88<=140737488351232:=by have:=j6 ops;have:=HS.out.2;omega
 have HSZ:Hid (Sized (cF ops)):=rB HS.out.1.sized;have HKN:Hid ((∀o∈cF ops,o.kind≠12)/\(cF ops).length<=n):=⟨fun o ho=>by simpa using (List.mem_filter.1 ho).2,by have:=j6 ops;have:=HS.out.2;omega⟩;obtain ⟨s,hs⟩:∃s,s=cF ops:=⟨_,rfl⟩;rw [<-hs] at HW hlen HSZ HKN;clear hs;go_wp2_with fail
 refine HW.mono ?_;rintro e w2 ⟨v2,rfl,own2,b2⟩;obtain ⟨va2,vc2,rfl,-⟩:=ax own2;have bb2:ak w w2:=HB1.out.trans (.below b2);have HSC:Hid (dJ w2 (.slice va2 s.length vc2) s/\ak w w2):=⟨iV own2 rfl HSZ.out (by omega),bb2⟩;clear own2 b2 bb2 HW;go_wp2_with fail
 refine (dK _ _ _ w2).mono ?_;rintro e x1 ⟨rfl,y1⟩;go_wp2_with fail
 refine (dK _ _ _ x1).mono ?_;rintro e x2 ⟨rfl,y2⟩;replace y2:=y1.trans (y2.mono y1.size);go_wp2_with fail
 refine (dK _ _ _ x2).mono ?_;rintro e x3 ⟨rfl,y3⟩;replace y3:=y2.trans (y3.mono y2.size);clear y1 y2;go_wp2_with fail
 have y4:Below w2.heap.size w2 (x3.alloc (.cells ((nf key2 body2).flatMap aH).toArray 31)):=y3.alloc y3.size _;have hmA:=tq x3 (nf key2 body2) _ 31 rfl 3 rfl (BS key2 body2 hks hb2) (by simp [nf]);refine (ry _ s x3.heap.size 3 (nf key2 body2) _ (HSC.out.1.on y4) hmA (by omega) (by omega)).mono ?_;rintro e x5 ⟨v5,rfl,own5,y5⟩;obtain ⟨va5,vc5,rfl,-⟩:=ax own5;replace y5:=y4.trans (y5.mono y4.size);have hsc5:dJ x5 (.slice va5 (s.length+3) vc5) (s++nf key2 body2):=iV own5 (by simp [nf]) (kI HSZ.out (BS key2 body2 hks hb2)) (by simp [nf];omega);clear y3 y4 hmA own5;go_wp2_with fail
 have hN6:(s++nf key2 body2).length=s.length+3:=by simp [nf]
 have HR6:=tC HA.out.1 _ _ x5 (fun w' hl=>HA.out.2.2.2 w' ((HSC.out.2.trans (.below y5)).trans hl)) hsc5 (by simp [nf]) (by rw [hN6];have:=HA.out.2.2.1;have:=HKN.out.2;omega) HA.out.2.1 (fun o ho=>(List.mem_append.1 ho).elim (HKN.out.1 o) (Ew key2 body2 o));rw [hN6] at HR6;refine HR6.mono ?_;clear HR6;rintro e x6 (hR|hst)
 rotate_left
 ·obtain ⟨x,y,r,rfl,hst⟩:=hst;have hQ:=HQ.out;subst hQ;exact ⟨rfl,.inr ⟨x,y,r,rfl,hst⟩⟩
 obtain ⟨st,hst⟩:∃st,st=(dv s).st:=⟨_,rfl⟩;have hI:Inv st s.length:=by rw [hst];exact (uD (Qok:=uG) s (fun o ho=>⟨(pC o (HKN.out.1 o ho)).1,(HSZ.out o ho).1⟩)).i
 have l0:=hI.last0;have l1:=hI.lastS;have HI:Hid (Inv st s.length/\st=(dv s).st):=⟨hI,hst⟩;have HRR:Hid (D7 (s++nf key2 body2) (s.length+3) x5 e x6):=hR;have HY5:Hid (Below w2.heap.size w2 x5):=y5;clear hI hst hR y5 hsc5;by_cases hfull:200<=st.count
 ·obtain ⟨x,y,hX⟩:=zp (st:=st) HK.out hb2 hfull;rw [HI.out.2] at hX;obtain ⟨ga,rfl,hl6,own6⟩:=uH HRR.out hN6 (uI key2 body2) hX;have HY6:Hid (ak w x6/\ak w2 x6):=⟨HSC.out.2.trans ((ak.below HY5.out).trans hl6),(ak.below HY5.out).trans hl6⟩;obtain ⟨c0,c1,-⟩:=own6 0 _ rfl;rw [Nat.add_zero s.length] at c0 c1;clear own6 hX hfull hN6 hl6;go_wp2;have hQ:=HQ.out;subst hQ;go_ret;exact .inl ⟨rfl,HY6.out.1⟩
 ·have hX:cC (dv s).st (nf key2 body2)=[⟨0,st.last+1,eB⟩,⟨0,st.last+1,body2⟩,if 200<=st.count+1 then ⟨4,0,eB⟩ else ⟨0,st.last+2,eB⟩]:=by
   rw [<-HI.out.2];exact EK HK.out hb2 hfull
  by_cases h3:200<=st.count+1
  ·rw [if_pos h3] at hX;obtain ⟨ga,rfl,hl6,own6⟩:=uH HRR.out hN6 (uI key2 body2) hX;have HY6:Hid (ak w x6/\ak w2 x6):=⟨HSC.out.2.trans ((ak.below HY5.out).trans hl6),(ak.below HY5.out).trans hl6⟩;obtain ⟨c0,c1,-⟩:=own6 0 _ rfl;obtain ⟨d0,d1,d2⟩:=own6 1 _ rfl;obtain ⟨e0,-,-⟩:=own6 2 _ rfl;rw [Nat.add_zero s.length] at c0 c1;dsimp only at c0 c1 d0 d1 d2 e0;clear own6 hX hfull hN6 hl6;go_wp2;have hQ:=HQ.out;subst hQ;go_ret;exact .inl ⟨rfl,HY6.out.1⟩
  ·rw [if_neg h3] at hX;obtain ⟨ga,rfl,hl6,own6⟩:=uH HRR.out hN6 (uI key2 body2) hX;have HY6:Hid (ak w x6/\ak w2 x6):=⟨HSC.out.2.trans ((ak.below HY5.out).trans hl6),(ak.below HY5.out).trans hl6⟩;obtain ⟨c0,c1,-⟩:=own6 0 _ rfl;obtain ⟨d0,d1,d2⟩:=own6 1 _ rfl;obtain ⟨e0,e1,-⟩:=own6 2 _ rfl;rw [Nat.add_zero s.length] at c0 c1;dsimp only at c0 c1 d0 d1 d2 e0 e1;clear own6 hX hN6 hl6;go_wp2_with fail
   refine (dK _ _ _ x6).mono ?_;rintro e z1 ⟨rfl,y1⟩;go_wp2_with fail
   refine (dK _ _ _ z1).mono ?_;rintro e z2 ⟨rfl,y2⟩;replace y2:=y1.trans (y2.mono y1.size);go_wp2_with fail
   refine (dK _ _ _ z2).mono ?_;rintro e z3 ⟨rfl,y3⟩;replace y3:=y2.trans (y3.mono y2.size);go_wp2_with fail
   refine (dK _ _ _ z3).mono ?_;rintro e z4 ⟨rfl,y4⟩;replace y4:=y3.trans (y4.mono y3.size);clear y1 y2 y3;go_wp2_with fail
   have y5:Below x6.heap.size x6 (z4.alloc (.cells ((pB key2 body2 (st.last+1) (st.last+2)).flatMap aH).toArray 31)):=y4.alloc y4.size _;have y6:ak w2 (z4.alloc (.cells ((pB key2 body2 (st.last+1) (st.last+2)).flatMap aH).toArray 31)):=HY6.out.2.trans (.below y5);have hmB:=tq z4 (pB key2 body2 (st.last+1) (st.last+2)) _ 31 rfl 8 rfl (BT key2 body2 _ _ hks hb2) (by simp [pB]);have HWB:=ry _ s z4.heap.size 8 (pB key2 body2 (st.last+1) (st.last+2)) _ (HSC.out.1.left y6) hmB (by omega) (by omega);refine HWB.mono ?_;rintro e z5 ⟨v5,rfl,own5,q5⟩;obtain ⟨vb5,vd5,rfl,-⟩:=ax own5;replace q5:=y5.trans (q5.mono y5.size);have hsc7:dJ z5 (.slice vb5 (s.length+8) vd5) (s++pB key2 body2 (st.last+1) (st.last+2)):=iV own5 (by simp [pB]) (kI HSZ.out (BT key2 body2 _ _ hks hb2)) (by simp [pB];omega);clear y4 y5 y6 hmB HWB own5;go_wp2_with fail
   have hN7:(s++pB key2 body2 (st.last+1) (st.last+2)).length=s.length+8:=by simp [pB]
   have HR7:=tC HA.out.1 _ _ z5 (fun w' hl=>HA.out.2.2.2 w' ((HY6.out.1.trans (.below q5)).trans hl)) hsc7 (by simp [pB]) (by rw [hN7];have:=HA.out.2.2.1;have:=HKN.out.2;omega) HA.out.2.1 (fun o ho=>(List.mem_append.1 ho).elim (HKN.out.1 o) (Ex key2 body2 _ _ o));rw [hN7] at HR7;refine HR7.mono ?_;clear HR7;rintro e z6 (hR7|hst)
   rotate_left
   ·obtain ⟨x,y,r,rfl,hst⟩:=hst;have hQ:=HQ.out;subst hQ;exact ⟨rfl,.inr ⟨x,y,r,rfl,hst⟩⟩
   have hX:cC (dv s).st (pB key2 body2 (st.last+1) (st.last+2))=[⟨0,st.last+1,eB⟩,⟨0,st.last+2,eB⟩,⟨5,0,eB⟩,⟨0,0,body2⟩,⟨6,0,eB⟩,⟨0,0,eB⟩,⟨0,st.last+1,body2⟩,⟨5,0,eB⟩]:=by
    rw [<-HI.out.2];exact EL HI.out.1 HK.out hb2 (by omega) (by omega)
   obtain ⟨gb,rfl,hl7,own7⟩:=uH hR7 hN7 (BU key2 body2 _ _) hX;have HY7:Hid (ak w z6):=HY6.out.1.trans ((ak.below q5).trans hl7);obtain ⟨g2,-,-⟩:=own7 2 _ rfl;obtain ⟨g3,-,g3'⟩:=own7 3 _ rfl;obtain ⟨g4,-,-⟩:=own7 4 _ rfl;obtain ⟨g5,-,-⟩:=own7 5 _ rfl;obtain ⟨g6,g6',g6''⟩:=own7 6 _ rfl;obtain ⟨g7,-,-⟩:=own7 7 _ rfl;dsimp only at g2 g3 g3' g4 g5 g6 g6' g6'' g7;clear own7 hX hN7 hfull h3 q5 hl7 hR7 hsc7 c0 c1 d0 d1 d2 e0 e1;go_wp2;have hQ:=HQ.out;subst hQ;go_ret;exact .inl ⟨rfl,HY7.out⟩
theorem Bx {G:World->Prop}{N:Nat}(hAns:Eb G N)(hN:N<2199023255540)(a:Option Addr)(n cap:Nat)(key body:ByteArray)(ops:List OpD)(w:World)(h:dJ w (.slice a n cap) ops)(hn:n * 88<=140737488351232)(hnN:n+8<=N)(hk:key.size<=maxLen)(hbd:body.size<=maxLen)(hG:∀w',ak w w'->G w'):
  Calls Yq.prog 4 #[.slice a n cap,.string key,.string body] w fun e w'=>(e=.returned (.bool true)/\ak w w')\/Stop uG e w':=by
 have hnl:n=ops.length:=by
  obtain ⟨a',cap',he,_⟩:=h.form;cases he;rfl
 have HS:Hid (dJ w (.slice a n cap) ops/\n=ops.length):=⟨h,hnl⟩;have HA:Hid (Eb G N/\N<2199023255540/\n+8<=N/\∀w',ak w w'->G w'):=⟨hAns,hN,hnN,hG⟩;clear h hnl hAns hG hN hnN;unfold maxLen at hk hbd;go_enter Yq.func4,Tryz.ntmps4;go_wp2_with fail
 refine (zt HA.out.1 (by have:=HA.out.2;omega) HA.out.2.1 w HA.out.2.2.2).mono ?_;rintro e w1 (⟨rfl,b1⟩|hst)
 rotate_left
 ·obtain ⟨x,y,r,rfl,hst⟩:=hst;exact ⟨rfl,.inr ⟨x,y,r,rfl,hst⟩⟩
 have HB1:Hid (ak w w1):=b1;clear b1
 go_upto_if 19 with fail
 go_cut [1] (fun s1 wx=>∃key',s1=.string key'/\key'.size<=40/\wx=w1)
 case first=>
  by_cases h40:40<key.size
  ·go_wp2
   go_meet
   case rel=>exact ⟨_,rfl,by simp;omega,rfl⟩
  ·go_wp2
   go_meet
   case rel=>exact ⟨_,rfl,by omega,rfl⟩
 case rest=>
 obtain ⟨key1,rfl,hk1,rfl⟩:=hcut
 go_upto_if 23 with fail
 go_cut [1] (fun s1 wx=>∃key',s1=.string key'/\aJ key'=true/\wx=wc)
 case first=>
  by_cases h0:key1.size=0
  ·have hkl:key1.data.toList=[]:=List.eq_nil_of_length_eq_zero (by simpa using h0);have hke:key1.toList.isEmpty=true:=by rw [ByteArray.toList_eq,hkl];rfl
   rw [hke];clear hkl h0 hke;go_wp2
   go_meet
   case rel=>exact ⟨_,rfl,by decide,rfl⟩
  ·have hke:key1.toList.isEmpty=false:=by rw [ByteArray.toList_eq,oW key1 (by omega)];rfl
   rw [hke];clear hke;go_wp2
   go_meet
   case rel=>exact ⟨_,rfl,by simp [aJ];omega,rfl⟩
 case rest=>
 obtain ⟨key2,rfl,hkey,rfl⟩:=hcut
 go_upto_if 26 with fail
 go_cut [2] (fun s2 wx=>∃body',s2=.string body'/\body'.size<=100/\wx=wc)
 case first=>
  by_cases h100:100<body.size
  ·go_wp2
   go_meet
   case rel=>exact ⟨_,rfl,by simp;omega,rfl⟩
  ·go_wp2
   go_meet
   case rel=>exact ⟨_,rfl,by omega,rfl⟩
 case rest=>
 obtain ⟨body2,rfl,hb2,rfl⟩:=hcut;rename_i K1 hK1;exact hK1 _ _ (zv HA HS HB1 hkey hb2 hn)
end
