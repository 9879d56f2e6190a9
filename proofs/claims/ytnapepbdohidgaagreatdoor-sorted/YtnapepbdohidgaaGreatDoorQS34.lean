/- A part. -/
import Derived.Test.YtnapepbdohidgaaGreatDoorQS33
set_option maxHeartbeats 4000000
set_option maxRecDepth 100000
namespace Go.Proofs.Qw
section
open Go
open Go.Conc Go.ConcX Go.ConcX.Gen Go.RowKit
theorem nT.at {w:World}{a:Option Addr}{n cap:Nat}{l:List ItD}(h:nT w (.slice a n cap) l)(hne:l≠[]):∃g,a=some ⟨g,0,none⟩/\n=l.length/\∀i (hi:i<l.length),w.cell? ⟨g,i * 3,none⟩=some (.int .i64 l[i].kind)/\w.cell? ⟨g,i * 3+1,none⟩=some (.string l[i].text)/\w.cell? ⟨g,i * 3+2,none⟩=some (.int .i64 l[i].ver):=by
 obtain ⟨a',cap',e,hx⟩:=h.form;cases e;obtain ⟨g,rfl,hc⟩:=hx hne;refine ⟨g,rfl,rfl,fun i hi=>?_⟩;obtain ⟨c0,c1,c2⟩:=oP l i hi;exact ⟨(hc _ (by omega)).trans c0,(hc _ (by omega)).trans c1,(hc _ (by omega)).trans c2⟩
noncomputable def soX:Code:=bM (bM (bM (bM (bM (bM (bM (bM (bM (bM (bM (bm Tryz.f7)))))))))))
section
variable {u0 u4 u5 u6 u7 u8 u9 u10 u11 u12 u14 u16 u18 u19 u20 u21 u22 u23 u24 u25 u26 u27 u28 u29 u30 u31 u32 u33 u34 u35 u36 u37 u38 u39 u40 u41 u42 u43 u44 u45 u46 u47 u48 u49 u50 u51 u52 u53 u54 u55 u56 u57 u58 u59 u60 u61 u62 u63 u64 u65 u66 u67 u68 u69 u70 u71 u72 u73 u74 u75 u76 u77 u78 u79 u80 u81 u82 u83 u84 u85 u86 u87 u88 u89 u90 u91 u92 u93 u94 u95 u96 u97 u98 u99 u100 u101 u102 u103 u104 u105 u106 u107 u108 u109 u110 u111 u112 u113 u114 u115 u116 u117 u118 u119 u120 u121 u122 u123 u124 u125 u126 u127 u128 u129 u130 u131 u132 u133 u134 u135 u136 u137 u138 u139 u140 u141 u142 u143 u144 u145 u146 u147 u148 u149 u150 u151 u152 u153 u154 u155 u156 u157 u158 u159 u160 u161 u162 u163 u164 u165 u166 u167 u168 u169 u170 u171 u172 u173 u174 u175 u176 u177 u178 u179 u180 u181 u182 u183 u184 u185 u186 u187 u188 u189 u190 u191 u192 u193 u194 u195 u196 u197 u198 u199 u200 u201 u202 u203 u204 u205 u206 u207 u208 u209 u210 u211 u212 u213 u214 u215 u216 u217 u218:Value}
theorem Ep {w x:World}{p d af:ByteArray}{gb k0 n cl:Nat}{st:St}{I:List ItD}{pl:Option Addr}(hI:nT x (.slice pl n cl) I)(hn:n=I.length)(hn2:n<=20)(hk0:k0<=2199023255552)(hd:d.size<=140737488351232)(hasc:Asc I)(hok:∀y∈I,Ff st p d af y)
  (hb:∀i (h:i<I.length),x.cell? ⟨gb,(k0+i) * 5,none⟩=some (.int .i64 (aL st (iI I[i].text)).2.code)/\x.cell? ⟨gb,(k0+i) * 5+1,none⟩=some (.int .i64 (aL st (iI I[i].text)).2.ver)) (hl:aj w x) {K1 K2:Act->World->Prop} (hK2:∀a w',(bM soX).wp Yq.prog (bodyPost Yq.prog Tryz.f7 fun e w'=>(e=.returned (.bool true)/\aj w w')\/Stop sg e w') a w'->K2 a w') (hK1:∀a w',(bM (fD soX)).wp Yq.prog (Exit.then K2 (bodyPost Yq.prog Tryz.f7 fun e w'=>(e=.returned (.bool true)/\aj w w')\/Stop sg e w')) a w'->K1 a w'):
  (fD (fD soX)).wp Yq.prog (Exit.then K1 (Exit.then K2 (bodyPost Yq.prog Tryz.f7 fun e w'=>(e=.returned (.bool true)/\aj w w')\/Stop sg e w'))) ⟨#[u0,.string p,.string d,.string af,u4,u5,u6,u7,u8,u9,u10,u11,u12,.int .i64 k0,u14,.slice pl n cl,u16,.slice (some ⟨gb,0,none⟩) (k0+n) (k0+n),u18,u19,u20,u21,u22,u23,u24,u25,u26,u27,u28,u29,u30,u31,u32,u33,u34,u35,u36,u37,u38,u39,u40,u41,u42,u43,u44,u45,u46,u47,u48,u49,u50,u51,u52,u53,u54,u55,u56,u57,u58,u59,u60,u61,u62,u63,u64,u65,u66,u67,u68,u69,u70,u71,u72,u73,u74,u75,u76,u77,u78,u79,u80,u81,u82,u83,u84,u85,u86,u87,u88,u89,u90,u91,u92,u93,u94,u95,u96,u97,u98,u99,u100,u101,u102,u103,u104,u105,u106,u107,u108,u109,u110,u111,u112,u113,u114,u115,u116,u117,u118,u119,u120,u121,u122,u123,u124,u125,u126,u127,u128,u129,u130,u131,u132,u133,u134,u135,u136,u137,u138,u139,u140,u141,u142,u143,u144,u145,u146,u147,u148,u149,u150,u151,u152,u153,u154,u155,u156,u157,u158,u159,u160,u161,u162,u163,u164,u165,u166,u167,u168,u169,u170,u171,u172,u173,u174,u175,u176,u177,u178,u179,u180,u181,u182,u183,u184,u185,u186,u187,u188,u189,u190,u191,u192,u193,u194,u195,u196,u197,u198,u199,u200,u201,u202,u203,u204,u205,u206,u207,u208,u209,u210,u211,u212,u213,u214,u215,u216,u217,u218],[]⟩ x:=by
 have HL:Hid (aj w x):=hl;have HI:Hid (nT x (.slice pl n cl) I/\n=I.length/\Asc I/\∀y∈I,Ff st p d af y):=⟨hI,hn,hasc,hok⟩;have HB:Hid (∀i (h:i<I.length),x.cell? ⟨gb,(k0+i) * 5,none⟩=some (.int .i64 (aL st (iI I[i].text)).2.code)/\x.cell? ⟨gb,(k0+i) * 5+1,none⟩=some (.int .i64 (aL st (iI I[i].text)).2.ver)):=hb;clear hl hI hn hasc hok hb;dsimp only [soX,bm,Tryz.f7,bM,fD,Option.getD] at hK1 hK2 ⊢;go_wp2_with fail
 go_loopw [18] (fun s18 wr=>∃i:Nat,i<=n/\s18=.int .i64 i/\aj x wr) (fun s18 _=>n-(intOf s18).toNat)
 case atStart=>exact ⟨0,Nat.zero_le _,rfl,aj.refl⟩
 case round=>
  obtain ⟨i,hin,rfl,hlr⟩:=hrel;have HLR:Hid (aj x wr):=hlr;clear hlr;by_cases hlt:i<n
  .have hne:I≠[]:=by rintro rfl;have:=HI.out.2.1;simp at this;omega
   obtain ⟨g,hpl,-,hc⟩:=HI.out.1.at hne;subst hpl;have hiI:i<I.length:=by have:=HI.out.2.1;omega
   obtain ⟨c0,c1,c2⟩:=hc i hiI;replace c0:=HLR.out.cell c0;replace c1:=HLR.out.cell c1;replace c2:=HLR.out.cell c2;obtain ⟨b0,b1⟩:=HB.out i hiI;replace b0:=HLR.out.cell b0;replace b1:=HLR.out.cell b1;have hit:=HI.out.2.2.2 I[i] (List.getElem_mem hiI);have HPV:Hid (∀j (hj:j+1=i),wr.cell? ⟨g,j * 3,none⟩=some (.int .i64 (I[j]'(by omega)).kind)/\wr.cell? ⟨g,j * 3+1,none⟩=some (.string (I[j]'(by omega)).text)/\txt (I[j]'(by omega))<txt I[i]):=fun j hj=>by
    obtain ⟨a0,a1,-⟩:=hc j (by omega);subst hj;exact ⟨HLR.out.cell a0,HLR.out.cell a1,HI.out.2.2.1 j hiI⟩
   obtain ⟨x1,hx1⟩:∃x1,x1=I[i]:=⟨_,rfl⟩;rw [<-hx1] at c0 c1 c2 b0 b1 hit HPV;obtain ⟨kind,tx,ver⟩:=x1;simp only [txt] at c0 c1 c2 b0 b1 hit HPV;clear hx1 hc hne;obtain ⟨hpre,hsz,hcase⟩:=hit;simp only [txt] at hpre hsz hcase;have hpz:p.size<=40:=by have:=hpre.length_le;simp at this;omega
   have HBG:Hid (∀W,Calls Yq.prog 24 #[.string tx,.string p] W fun e w'=>e=.returned (.bool true)/\w'=W):=fun W=>xP tx p W hpre
   have HBH:Hid (∀W,Calls Yq.prog 25 #[.string tx,.string p,.string d] W fun e w'=>e=.returned (.int .i64 (CB tx p d))/\w'=W):=fun W=>xR tx p d W (by omega) (by omega) hd
   clear hpre;obtain ⟨W1,hW1⟩:∃W1,W1=wr.alloc (.cells #[.int .i64 kind,.string tx,.int .i64 ver] 41):=⟨_,rfl⟩;have hLW:aj wr W1:=by rw [hW1];exact aj.refl.alloc _
   have HLW:Hid (∀k,aj x (W1.drewN k)):=fun k=>have h:=HLR.out.trans hLW;⟨h.os,h.size,h.block⟩
   have W1c:∀j,W1.cell? ⟨wr.heap.size,j,none⟩=(#[.int .i64 kind,.string tx,.int .i64 ver]:Array Value)[j]?:=fun j=>by rw [hW1];exact pV wr _ _ j
   have q0:=W1c 0;have q1:=W1c 1;have q2:=W1c 2;simp only [gA,gZ,gS] at q0 q1 q2;replace b0:=hLW.cell b0;replace b1:=hLW.cell b1;have HPW:Hid (∀j (hj:j+1=i),W1.cell? ⟨g,j * 3,none⟩=some (.int .i64 (I[j]'(by omega)).kind)/\W1.cell? ⟨g,j * 3+1,none⟩=some (.string (I[j]'(by omega)).text)/\(I[j]'(by omega)).text.data.toList<tx.data.toList):=fun j hj=>⟨hLW.cell (HPV.out j hj).1,hLW.cell (HPV.out j hj).2.1,(HPV.out j hj).2.2⟩
   have HW1:Hid (W1=wr.alloc (.cells #[.int .i64 kind,.string tx,.int .i64 ver] 41)):=hW1;have i1:(k0:Int)+i<k0+n:=by omega
   have i2:(0:Int)<=k0+i:=by omega
   have i3:((k0:Int)+i).toNat=k0+i:=by omega
   have i4:IntKind.i64.wrap ((k0:Int)+i)=k0+i:=by simp [IntKind.wrap,IntKind.bits,IntKind.signed];omega
   clear HPV W1c hLW hW1;rcases hcase with ⟨rfl,hbh,hpast,hcode,hver⟩|⟨rfl,⟨jb,hbh,hjb⟩,rfl⟩
   .have hBI:CB tx p d=-1:=by unfold CB;rw [hbh]
    rw [hBI] at HBH;rw [hcode] at b0;rw [hver] at b1;have hp1:Op.bytesLess tx.toList af.toList=false:=by simp [lH] at hpast;exact hpast.1
    have hp2:(tx.toList==af.toList)=false:=by simp [lH] at hpast;simpa using hpast.2
    clear hbh hBI hcode hver hpast;by_cases h0:0<i
    .obtain ⟨j,hj⟩:∃j,j+1=i:=⟨i-1,by omega⟩;obtain ⟨e0,e1,hlt'⟩:=HPW.out j hj;have w1:IntKind.i64.wrap ((i:Int)-1)=j:=by simp [IntKind.wrap,IntKind.bits,IntKind.signed];omega
     have w2:j<n:=by omega
     generalize (I[j]'(by omega)).text=tp at *;generalize (I[j]'(by omega)).kind=kp at *;have l1:Op.bytesLess tp.toList tx.toList=true:=by rw [AA];exact decide_eq_true hlt'
     have l2:(tp.toList==tx.toList)=false:=by
      rw [ByteArray.toList_eq,ByteArray.toList_eq];simp only [beq_eq_false_iff_ne,ne_eq];intro e;rw [e] at hlt';exact List.lt_irrefl _ hlt'
     clear HPW hlt' hj;go_wp2_with fail
     refine (HBG.out _).mono ?_;rintro e x2 ⟨rfl,rfl⟩;go_wp2_with fail
     refine (HBH.out _).mono ?_;rintro e x3 ⟨rfl,rfl⟩;go_wp2_with fail
     rw [<-HW1.out];clear c0 c1 c2
     go_quiet (fail)
     go_wp2_with fail
     go_quiet (fail)
     go_wp2_with fail
     exact ⟨⟨i+1,by omega,by go_num,HLW.out _⟩,by simp [intOf];omega⟩
    .clear HPW;go_wp2_with fail
     refine (HBG.out _).mono ?_;rintro e x2 ⟨rfl,rfl⟩;go_wp2_with fail
     refine (HBH.out _).mono ?_;rintro e x3 ⟨rfl,rfl⟩;go_wp2_with fail
     rw [<-HW1.out];clear c0 c1 c2
     go_quiet (fail)
     go_wp2_with fail
     go_quiet (fail)
     go_wp2_with fail
     exact ⟨⟨i+1,by omega,by go_num,HLW.out _⟩,by simp [intOf];omega⟩
   .have hBI:CB tx p d=jb:=by unfold CB;rw [hbh]
    rw [hBI] at HBH;have m1:IntKind.i64.wrap ((jb:Int)+d.size)=tx.size:=by rw [<-hjb];simp [IntKind.wrap,IntKind.bits,IntKind.signed];omega
    clear hbh hBI hjb;by_cases h0:0<i
    .obtain ⟨j,hj⟩:∃j,j+1=i:=⟨i-1,by omega⟩;obtain ⟨e0,e1,hlt'⟩:=HPW.out j hj;have w1:IntKind.i64.wrap ((i:Int)-1)=j:=by simp [IntKind.wrap,IntKind.bits,IntKind.signed];omega
     have w2:j<n:=by omega
     generalize (I[j]'(by omega)).text=tp at *;generalize (I[j]'(by omega)).kind=kp at *;have l1:Op.bytesLess tp.toList tx.toList=true:=by rw [AA];exact decide_eq_true hlt'
     have l2:(tp.toList==tx.toList)=false:=by
      rw [ByteArray.toList_eq,ByteArray.toList_eq];simp only [beq_eq_false_iff_ne,ne_eq];intro e;rw [e] at hlt';exact List.lt_irrefl _ hlt'
     clear HPW hlt' hj;go_wp2_with fail
     refine (HBG.out _).mono ?_;rintro e x2 ⟨rfl,rfl⟩;go_wp2_with fail
     refine (HBH.out _).mono ?_;rintro e x3 ⟨rfl,rfl⟩;go_wp2_with fail
     rw [<-HW1.out];clear c0 c1 c2
     go_quiet (fail)
     go_wp2_with fail
     exact ⟨⟨i+1,by omega,by go_num,HLW.out _⟩,by simp [intOf];omega⟩
    .clear HPW;go_wp2_with fail
     refine (HBG.out _).mono ?_;rintro e x2 ⟨rfl,rfl⟩;go_wp2_with fail
     refine (HBH.out _).mono ?_;rintro e x3 ⟨rfl,rfl⟩;go_wp2_with fail
     rw [<-HW1.out];clear c0 c1 c2
     go_quiet (fail)
     go_wp2_with fail
     exact ⟨⟨i+1,by omega,by go_num,HLW.out _⟩,by simp [intOf];omega⟩
  .have hie:i=n:=by omega
   subst hie;go_wp2;go_ret;exact .inl ⟨rfl,HL.out.trans HLR.out⟩
end
end
