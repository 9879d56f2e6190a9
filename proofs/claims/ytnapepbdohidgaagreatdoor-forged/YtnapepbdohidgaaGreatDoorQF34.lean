/- A part. -/
import Derived.Test.YtnapepbdohidgaaGreatDoorQF31
import Derived.Test.YtnapepbdohidgaaGreatDoorQF33
set_option maxHeartbeats 4000000
set_option maxRecDepth 100000
namespace Go.Proofs.Qw
section
open Go
open Go.Conc Go.ConcX Go.ConcX.Gen Go.RowKit
section
variable {u0 u1 u2 u3 u4 u5 u6 u7 u8 u9 u10 u11 u12 u13 u14 u15 u16 u17 u18 u19 u20 u21 u22 u23 u24 u25 u26 u27 u28 u29 u30 u31 u32 u33 u34 u35 u36 u37 u38 u39 u40 u41 u42 u43 u44 u45 u46 u47 u48 u49 u50 u51 u52 u53 u54 u55 u56 u57 u58 u59 u60 u61 u62 u63 u64 u65 u66 u67 u68 u69 u70 u71 u72 u73 u74 u75 u76 u77 u78 u79 u80 u81 u82 u83 u84 u85 u86 u87 u88 u89 u90 u91 u92 u93 u94 u95 u96 u97 u98 u99 u100 u101 u102 u103 u104 u105 u106 u107 u108 u109 u110 u111 u112 u113 u114 u115 u116 u117 u118 u119 u120 u121 u122 u123 u124 u125 u126 u127 u128 u129 u130 u131 u132 u133 u134 u135 u136 u137 u138 u139 u140 u141 u142 u143 u144 u145 u146 u147 u148 u149 u150 u151 u152 u153 u154 u155 u156 u157 u158 u159 u160 u161 u162 u163 u164 u165 u166 u167 u168 u169 u170 u171 u172 u173 u174 u175 u176 u177 u178 u179 u180 u181 u182 u183 u184 u185 u186 u187 u188 u189:Value}
def fgQ (w:World)(e:Exit)(a:Act)(w':World):Prop:=
 match e with
 | .ret=>bodyPost Yq.prog Tryz.f11 (fun e w'=>(e=.returned (.bool true)/\ak w w')\/Stop oM e w') .ret a w'
 |_=>False
noncomputable def fgX:Code:=bi (bi (bi (bi (bi (bi (bi (aX Tryz.f11)))))))
noncomputable def sp:Code:=bi (zu (bi (cIn (eY (bi (cIn (cIn (bi (eY fgX)))))))))
noncomputable def Ap:Code:=bi fgX
noncomputable def CK:Code:=bi (bi (bi sp))
theorem Ea {w x:World}{ga gc n0:Nat}{cd:Int}{tk:ByteArray}
  (a0:x.cell? ⟨ga,n0 * 5,none⟩=some (.int .i64 cd)) (a4:x.cell? ⟨ga,n0 * 5+4,none⟩=some (.string tk)) (c0:x.cell? ⟨gc,n0 * 5,none⟩=some (.int .i64 cd)) (c4:x.cell? ⟨gc,n0 * 5+4,none⟩=some (.string tk)) (hcode:cd=0\/cd=10) (hl:ak w x):
  CK.wp Yq.prog (fgQ w) ⟨#[u0,u1,u2,u3,u4,u5,u6,.int .i64 n0,.slice (some ⟨ga,0,none⟩) (n0+2) (n0+2),u9,u10,.slice (some ⟨gc,0,none⟩) (n0+2) (n0+2),.bool true,.bool true,u14,u15,u16,u17,u18,u19,u20,u21,u22,u23,u24,u25,u26,u27,u28,u29,u30,u31,u32,u33,u34,u35,u36,u37,u38,u39,u40,u41,u42,u43,u44,u45,u46,u47,u48,u49,u50,u51,u52,u53,u54,u55,u56,u57,u58,u59,u60,u61,u62,u63,u64,u65,u66,u67,u68,u69,u70,u71,u72,u73,u74,u75,u76,u77,u78,u79,u80,u81,u82,u83,u84,u85,u86,u87,u88,u89,u90,u91,u92,u93,u94,u95,u96,u97,u98,u99,u100,u101,u102,u103,u104,u105,u106,u107,u108,u109,u110,u111,u112,u113,u114,u115,u116,u117,u118,u119,u120,u121,u122,u123,u124,u125,u126,u127,u128,u129,u130,u131,u132,u133,u134,u135,u136,u137,u138,u139,u140,u141,u142,u143,u144,u145,u146,u147,u148,u149,u150,u151,u152,u153,u154,u155,u156,u157,u158,u159,u160,u161,u162,u163,u164,u165,u166,u167,u168,u169,u170,u171,u172,u173,u174,u175,u176,u177,u178,u179,u180,u181,u182,u183,u184,u185,u186,u187,u188,u189],[]⟩ x:=by
 have i1:(n0:Int)<n0+2:=by omega
 have HL:Hid (∀k,ak w (x.drewN k)):=fun k=>⟨hl.os,hl.size,hl.block⟩
 clear hl;dsimp only [CK,sp,fgX,zu,aX,Tryz.f11,cIn,eY,bi,Option.getD];rcases hcode with rfl|rfl
 .go_wp2_with fail
  go_quiet (fail)
  go_wp2;change bodyPost Yq.prog Tryz.f11 (fun e w'=>(e=.returned (.bool true)/\ak w w')\/Stop oM e w') .ret _ _;go_ret;exact .inl ⟨rfl,HL.out _⟩
 .go_wp2_with fail
  go_quiet (fail)
  go_wp2;change bodyPost Yq.prog Tryz.f11 (fun e w'=>(e=.returned (.bool true)/\ak w w')\/Stop oM e w') .ret _ _;go_ret;exact .inl ⟨rfl,HL.out _⟩
theorem Eb {w x:World}{K1:Act->World->Prop}(hK1:∀a w',(bi (bi sp)).wp Yq.prog (fgQ w) a w'->K1 a w'){ga gc n0:Nat}(hn0:n0<=2199023255552){cd:Int}{tk:ByteArray}{I J:List ItD}{ua ub uc ud:Value}
  (a0:x.cell? ⟨ga,n0 * 5,none⟩=some (.int .i64 cd)) (a3:x.cell? ⟨ga,n0 * 5+3,none⟩=some ua) (a4:x.cell? ⟨ga,n0 * 5+4,none⟩=some (.string tk)) (b3:x.cell? ⟨ga,(n0+1) * 5+3,none⟩=some ub)
  (c0:x.cell? ⟨gc,n0 * 5,none⟩=some (.int .i64 cd)) (c3:x.cell? ⟨gc,n0 * 5+3,none⟩=some uc) (c4:x.cell? ⟨gc,n0 * 5+4,none⟩=some (.string tk)) (d3:x.cell? ⟨gc,(n0+1) * 5+3,none⟩=some ud)
  (hcode:cd=0\/cd=10) (ia:fE x ua I) (ic:fE x uc I) (ib:fE x ub J) (id':fE x ud J) (lI:I.length<=1000) (lJ:J.length<=1000) (hl:ak w x):
  (eY (bi sp)).wp Yq.prog (Exit.then K1 (fgQ w)) ⟨#[u0,u1,u2,u3,u4,u5,u6,.int .i64 n0,.slice (some ⟨ga,0,none⟩) (n0+2) (n0+2),u9,u10,.slice (some ⟨gc,0,none⟩) (n0+2) (n0+2),u12,u13,u14,u15,u16,u17,u18,u19,u20,u21,u22,u23,u24,u25,u26,u27,u28,u29,u30,u31,u32,u33,u34,u35,u36,u37,u38,u39,u40,u41,u42,u43,u44,u45,u46,u47,u48,u49,u50,u51,u52,u53,u54,u55,u56,u57,u58,u59,u60,u61,u62,u63,u64,u65,u66,u67,u68,u69,u70,u71,u72,u73,u74,u75,u76,u77,u78,u79,u80,u81,u82,u83,u84,u85,u86,u87,u88,u89,u90,u91,u92,u93,u94,u95,u96,u97,u98,u99,u100,u101,u102,u103,u104,u105,u106,u107,u108,u109,u110,u111,u112,u113,u114,u115,u116,u117,u118,u119,u120,u121,u122,u123,u124,u125,u126,u127,u128,u129,u130,u131,u132,u133,u134,u135,u136,u137,u138,u139,u140,u141,u142,u143,u144,u145,u146,u147,u148,u149,u150,u151,u152,u153,u154,u155,u156,u157,u158,u159,u160,u161,u162,u163,u164,u165,u166,u167,u168,u169,u170,u171,u172,u173,u174,u175,u176,u177,u178,u179,u180,u181,u182,u183,u184,u185,u186,u187,u188,u189],[]⟩ x:=by
 have HS1:Hid (∀y,Below x.heap.size x y->Calls Yq.prog 22 #[ua,uc] y fun e w'=>∃v,e=.returned v/\v=.bool true/\Below y.heap.size y w'):=fun y hy=>(qm ua uc I y (ia.left (.below hy)) (ic.left (.below hy)) (by omega)).mono fun e w' h=>⟨_,h.1,rfl,h.2⟩
 have HS2:Hid (∀y,Below x.heap.size x y->Calls Yq.prog 22 #[ub,ud] y fun e w'=>∃v,e=.returned v/\v=.bool true/\Below y.heap.size y w'):=fun y hy=>(qm ub ud J y (ib.left (.below hy)) (id'.left (.below hy)) (by omega)).mono fun e w' h=>⟨_,h.1,rfl,h.2⟩
 have HL:Hid (∀y,Below x.heap.size x y->ak w y):=fun y hy=>hl.trans (.below hy)
 obtain ⟨pa,ca,rfl,-⟩:=ia.form;obtain ⟨pb,cb,rfl,-⟩:=ib.form;obtain ⟨pc,cc,rfl,-⟩:=ic.form;obtain ⟨pd,cd',rfl,-⟩:=id'.form;have hx:x.drew.heap.size=x.heap.size:=rfl;have HD:Hid (∀y:World,Below x.heap.size x y->Below x.heap.size x y.drew):=fun y hy=>⟨hy.os,hy.tape,hy.output,hy.size,hy.block⟩
 have HEN:Hid (∀ (args:Array Value) (wx:World),(callFunc 22 args).run Yq.prog wx=.ok (.enter 22 args) wx):=fun args wx=>by go_simp
 have i1:(n0:Int)<n0+2:=by omega
 have i2:(n0:Int)+1<n0+2:=by omega
 have i3:(0:Int)<=n0+1:=by omega
 have i4:((n0:Int)+1).toNat=n0+1:=by omega
 have i5:IntKind.i64.wrap ((n0:Int)+1)=n0+1:=by simp [IntKind.wrap,IntKind.bits,IntKind.signed];omega
 clear ia ib ic id' hl;dsimp only [sp,fgX,zu,aX,Tryz.f11,cIn,eY,bi,Option.getD] at hK1 ⊢
 go_region_law (refine bl rfl 22 #[.tmp 80,.tmp 85] #[34,34] rfl #[.slice pa I.length ca,.slice pc I.length cc] (by first|(simp [Act.eval];done)|(simp [Act.eval,Act.put];done)|go_simp) (HEN.out _ _) _ (HS1.out _ (HD.out _ (bR _ _))) ?_;rintro v1 y1 ⟨rfl,k1⟩;have q1:Below x.heap.size x y1:=(HD.out _ (bR _ _)).trans k1;replace a0:=ai q1 a0;replace a4:=ai q1 a4;replace b3:=ai q1 b3;replace c0:=ai q1 c0;replace c4:=ai q1 c4;replace d3:=ai q1 d3)
 all_goals refine hK1 _ _ ?_
 all_goals clear hK1
 all_goals go_wp2_with fail
 all_goals go_region_law (refine bl rfl 22 #[.tmp 92,.tmp 98] #[34,34] rfl #[.slice pb J.length cb,.slice pd J.length cd'] (by first|(simp [Act.eval];done)|(simp [Act.eval,Act.put];done)|go_simp) (HEN.out _ _) _ (HS2.out _ (HD.out _ q1)) ?_;rintro v2 y2 ⟨rfl,k2⟩;have k2':Below y1.heap.size y1 y2:=⟨k2.os,k2.tape,k2.output,k2.size,k2.block⟩;have q2:Below x.heap.size x y2:=(HD.out _ q1).trans (k2.mono (HD.out _ q1).size);replace a0:=ai k2' a0;replace a4:=ai k2' a4;replace c0:=ai k2' c0;replace c4:=ai k2' c4)
 all_goals rename_i K2 hK2
 all_goals exact hK2 _ _ (Ea a0 a4 c0 c4 hcode (HL.out _ q2))
end
section
variable {u0 u1 u2 u3 u4 u5 u6 u7 u8 u9 u10 u11 u12 u13 u14 u15 u16 u17 u18 u19 u20 u21 u22 u23 u24 u25 u26 u27 u28 u29 u30 u31 u32 u33 u34 u35 u36 u37 u38 u39 u40 u41 u42 u43 u44 u45 u46 u47 u48 u49 u50 u51 u52 u53 u54 u55 u56 u57 u58 u59 u60 u61 u62 u63 u64 u65 u66 u67 u68 u69 u70 u71 u72 u73 u74 u75 u76 u77 u78 u79 u80 u81 u82 u83 u84 u85 u86 u87 u88 u89 u90 u91 u92 u93 u94 u95 u96 u97 u98 u99 u100 u101 u102 u103 u104 u105 u106 u107 u108 u109 u110 u111 u112 u113 u114 u115 u116 u117 u118 u119 u120 u121 u122 u123 u124 u125 u126 u127 u128 u129 u130 u131 u132 u133 u134 u135 u136 u137 u138 u139 u140 u141 u142 u143 u144 u145 u146 u147 u148 u149 u150 u151 u152 u153 u154 u155 u156 u157 u158 u159 u160 u161 u162 u163 u164 u165 u166 u167 u168 u169 u170 u171 u172 u173 u174 u175 u176 u177 u178 u179 u180 u181 u182 u183 u184 u185 u186 u187 u188 u189:Value}
noncomputable def CL:Code:=bi Ap
theorem Ec {w x:World}{ga gb n0:Nat}(hn0:n0<=2199023255552){ver:Int}{p:Option Addr}{c:Nat}
  (a0:x.cell? ⟨ga,n0 * 5,none⟩=some (.int .i64 9)) (a3:x.cell? ⟨ga,n0 * 5+3,none⟩=some (.slice p 0 c)) (b1:x.cell? ⟨ga,(n0+1) * 5+1,none⟩=some (.int .i64 ver)) (d1:x.cell? ⟨gb,n0 * 5+1,none⟩=some (.int .i64 ver)) (hl:ak w x):
  CL.wp Yq.prog (bodyPost Yq.prog Tryz.f11 fun e w'=>(e=.returned (.bool true)/\ak w w')\/Stop oM e w') ⟨#[u0,u1,u2,u3,u4,u5,u6,.int .i64 n0,.slice (some ⟨ga,0,none⟩) (n0+2) (n0+2),.slice (some ⟨gb,0,none⟩) (n0+1) (n0+1),u10,u11,u12,u13,.bool true,u15,u16,u17,u18,u19,u20,u21,u22,u23,u24,u25,u26,u27,u28,u29,u30,u31,u32,u33,u34,u35,u36,u37,u38,u39,u40,u41,u42,u43,u44,u45,u46,u47,u48,u49,u50,u51,u52,u53,u54,u55,u56,u57,u58,u59,u60,u61,u62,u63,u64,u65,u66,u67,u68,u69,u70,u71,u72,u73,u74,u75,u76,u77,u78,u79,u80,u81,u82,u83,u84,u85,u86,u87,u88,u89,u90,u91,u92,u93,u94,u95,u96,u97,u98,u99,u100,u101,u102,u103,u104,u105,u106,u107,u108,u109,u110,u111,u112,u113,u114,u115,u116,u117,u118,u119,u120,u121,u122,u123,u124,u125,u126,u127,u128,u129,u130,u131,u132,u133,u134,u135,u136,u137,u138,u139,u140,u141,u142,u143,u144,u145,u146,u147,u148,u149,u150,u151,u152,u153,u154,u155,u156,u157,u158,u159,u160,u161,u162,u163,u164,u165,u166,u167,u168,u169,u170,u171,u172,u173,u174,u175,u176,u177,u178,u179,u180,u181,u182,u183,u184,u185,u186,u187,u188,u189],[]⟩ x:=by
 have i1:(n0:Int)<n0+2:=by omega
 have i2:(n0:Int)+1<n0+2:=by omega
 have i3:(0:Int)<=n0+1:=by omega
 have i4:((n0:Int)+1).toNat=n0+1:=by omega
 have i5:IntKind.i64.wrap ((n0:Int)+1)=n0+1:=by simp [IntKind.wrap,IntKind.bits,IntKind.signed];omega
 have i6:(n0:Int)<n0+1:=by omega
 have HL:Hid (∀k,ak w (x.drewN k)):=fun k=>⟨hl.os,hl.size,hl.block⟩
 clear hl;dsimp only [CL,Ap,fgX,aX,Tryz.f11,cIn,eY,bi,Option.getD];go_wp2_with fail
 go_quiet (fail)
 go_wp2;go_ret;exact .inl ⟨rfl,HL.out _⟩
theorem EV {w x:World}{K1:Act->World->Prop}(hK1:∀a w',(bi Ap).wp Yq.prog (bodyPost Yq.prog Tryz.f11 fun e w'=>(e=.returned (.bool true)/\ak w w')\/Stop oM e w') a w'->K1 a w'){ga gb n0:Nat}(hn0:n0<=2199023255552){ver:Int}{J:List ItD}{ua ub ud:Value}
  (a0:x.cell? ⟨ga,n0 * 5,none⟩=some (.int .i64 9)) (a3:x.cell? ⟨ga,n0 * 5+3,none⟩=some ua) (b1:x.cell? ⟨ga,(n0+1) * 5+1,none⟩=some (.int .i64 ver)) (b3:x.cell? ⟨ga,(n0+1) * 5+3,none⟩=some ub) (d1:x.cell? ⟨gb,n0 * 5+1,none⟩=some (.int .i64 ver)) (d3:x.cell? ⟨gb,n0 * 5+3,none⟩=some ud)
  (ia:fE x ua []) (ib:fE x ub J) (id':fE x ud J) (lJ:J.length<=1000) (hl:ak w x):
  (eY Ap).wp Yq.prog (Exit.then K1 (bodyPost Yq.prog Tryz.f11 fun e w'=>(e=.returned (.bool true)/\ak w w')\/Stop oM e w')) ⟨#[u0,u1,u2,u3,u4,u5,u6,.int .i64 n0,.slice (some ⟨ga,0,none⟩) (n0+2) (n0+2),.slice (some ⟨gb,0,none⟩) (n0+1) (n0+1),u10,u11,u12,u13,u14,u15,u16,u17,u18,u19,u20,u21,u22,u23,u24,u25,u26,u27,u28,u29,u30,u31,u32,u33,u34,u35,u36,u37,u38,u39,u40,u41,u42,u43,u44,u45,u46,u47,u48,u49,u50,u51,u52,u53,u54,u55,u56,u57,u58,u59,u60,u61,u62,u63,u64,u65,u66,u67,u68,u69,u70,u71,u72,u73,u74,u75,u76,u77,u78,u79,u80,u81,u82,u83,u84,u85,u86,u87,u88,u89,u90,u91,u92,u93,u94,u95,u96,u97,u98,u99,u100,u101,u102,u103,u104,u105,u106,u107,u108,u109,u110,u111,u112,u113,u114,u115,u116,u117,u118,u119,u120,u121,u122,u123,u124,u125,u126,u127,u128,u129,u130,u131,u132,u133,u134,u135,u136,u137,u138,u139,u140,u141,u142,u143,u144,u145,u146,u147,u148,u149,u150,u151,u152,u153,u154,u155,u156,u157,u158,u159,u160,u161,u162,u163,u164,u165,u166,u167,u168,u169,u170,u171,u172,u173,u174,u175,u176,u177,u178,u179,u180,u181,u182,u183,u184,u185,u186,u187,u188,u189],[]⟩ x:=by
 have HS1:Hid (∀y,Below x.heap.size x y->Calls Yq.prog 22 #[ub,ud] y fun e w'=>∃v,e=.returned v/\v=.bool true/\Below y.heap.size y w'):=fun y hy=>(qm ub ud J y (ib.left (.below hy)) (id'.left (.below hy)) (by omega)).mono fun e w' h=>⟨_,h.1,rfl,h.2⟩
 have HL:Hid (∀y,Below x.heap.size x y->ak w y):=fun y hy=>hl.trans (.below hy)
 obtain ⟨pa,ca,rfl,-⟩:=ia.form;obtain ⟨pb,cb,rfl,-⟩:=ib.form;obtain ⟨pd,cd,rfl,-⟩:=id'.form;have HD:Hid (∀y:World,Below x.heap.size x y->Below x.heap.size x y.drew):=fun y hy=>⟨hy.os,hy.tape,hy.output,hy.size,hy.block⟩
 have HEN:Hid (∀ (args:Array Value) (wx:World),(callFunc 22 args).run Yq.prog wx=.ok (.enter 22 args) wx):=fun args wx=>by go_simp
 have i1:(n0:Int)<n0+2:=by omega
 have i2:(n0:Int)+1<n0+2:=by omega
 have i3:(0:Int)<=n0+1:=by omega
 have i4:((n0:Int)+1).toNat=n0+1:=by omega
 have i5:IntKind.i64.wrap ((n0:Int)+1)=n0+1:=by simp [IntKind.wrap,IntKind.bits,IntKind.signed];omega
 have i6:(n0:Int)<n0+1:=by omega
 clear ia ib id' hl;dsimp only [Ap,fgX,aX,Tryz.f11,cIn,eY,bi,Option.getD] at hK1 ⊢
 go_region_law (refine bl rfl 22 #[.tmp 151,.tmp 156] #[34,34] rfl #[.slice pb J.length cb,.slice pd J.length cd] (by first|(simp [Act.eval];done)|(simp [Act.eval,Act.put];done)|go_simp) (HEN.out _ _) _ (HS1.out _ (HD.out _ (bR _ _))) ?_;rintro v1 y1 ⟨rfl,k1⟩;have q1:Below x.heap.size x y1:=(HD.out _ (bR _ _)).trans k1;replace a0:=ai q1 a0;replace a3:=ai q1 a3;replace b1:=ai q1 b1;replace d1:=ai q1 d1)
 all_goals exact hK1 _ _ (Ec hn0 a0 a3 b1 d1 (HL.out _ q1))
end
end
