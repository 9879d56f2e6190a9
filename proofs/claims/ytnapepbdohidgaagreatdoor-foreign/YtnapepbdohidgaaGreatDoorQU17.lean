/- A part. -/
import Derived.Test.YtnapepbdohidgaaGreatDoorQU16
set_option maxHeartbeats 4000000
set_option maxRecDepth 100000
open Go renaming World->Wz,Value->Wq,Addr->Ww
namespace Go.Proofs.Qw
section
open Go
open Go.Conc Go.ConcX Go.ConcX.Gen Go.RowKit
def kY (z:LsA×Option Ww):Bool:=decide (z.1.left<=0)
def gL (z:LsA×Option Ww):Bool:=!kY z
structure di (g:Option Nat)(w w':Wz):Prop where
 os:w'.os=w.os
 size:w.heap.size<=w'.heap.size
 block:∀b,b<w.heap.size->g≠some b->w'.heap[b]?=w.heap[b]?
theorem di.refl {g:Option Nat}{w:Wz}:di g w w:=⟨rfl,lR _,fun _ _ _=>rfl⟩
theorem di.trans {g:Option Nat}{w w' w'':Wz}(h:di g w w')(k:di g w' w''):di g w w'':=⟨k.os.trans h.os,lT h.size k.size,fun b hb hg=>(k.block b (lL hb h.size) hg).trans (h.block b hb hg)⟩
theorem di.below {g:Option Nat}{w w':Wz}(h:Below w.heap.size w w'):di g w w':=⟨h.os,h.size,fun b hb _=>h.block b hb⟩
theorem di.set {w w':Wz}{g j:Nat}{v:Wq}(h:di (some g) w w'):di (some g) w (w'.setCell ⟨g,j,none⟩ v):=
 ⟨h.os,by have:=h.size;simpa using this,fun b hb hg=>(bS _ _ _ _ (fun e=>hg (by rw [show b=g from e]))).trans (h.block b hb hg)⟩
theorem di.set8 {w:Wz}{g i:Nat}{l:Lst}:di (some g) w (set8 w g i l):=
 di.set (di.set (di.set (di.set (di.set (di.set (di.set (di.set di.refl)))))))
theorem CV (w:Wz)(g:Nat)(cur cs:Array Wq)(T:TypeId)(hg:w.heap[g]?=some (.cells cur T (0,0))):(w.setRow g cs).heap[g]?=some (.cells cs T (0,0)):=setRow_heap w g cur cs T _ hg
theorem di.setRow {w:Wz}{g:Nat}{cur cs:Array Wq}{T:TypeId}(_hg:w.heap[g]?=some (.cells cur T (0,0))):di (some g) w (w.setRow g cs):=by
 refine ⟨rfl,?_,fun b hb hne=>?_⟩
 .simp [World.setRow]
 .have:b≠g:=fun e=>hne (by rw [e])
  simp [World.setRow,Array.getElem?_modify,this.symm]
theorem mH.cut {B:Nat}{w:Wz}{g cap i:Nat}{ys:List (LsA×Option Ww)}{cur cur':Array Wq}(h:mH B w g cap ys)(hg:w.heap[g]?=some (.cells cur 125 (0,0)))(hs:cur'.size=cur.size)(ht:cur'.toList.take (i * 8)=cur.toList.take (i * 8))(hi:i<=ys.length):mH B (w.setRow g cur') g cap (ys.take i):=by
 have hr:=CV w g cur cur' 125 hg;obtain ⟨c2,h1,h2⟩:=h.obj;rw [hg] at h1;cases h1;refine ⟨h.base,⟨cur',hr,by omega⟩,by rw [tL];have:=h.le;omega,h.max,fun k hk j hj=>?_⟩;have hk':k<i:=by rw [tL] at hk;omega
 have h3:=h.cells k (by omega) j hj;rw [cell_of_row w g _ cur 125 (0,0) hg] at h3;rw [cell_of_row _ g _ cur' 125 (0,0) hr,List.getElem_take,<-h3];have h4:=congrArg (fun l:List Wq=>l[k * 8+j]?) ht;simp only [List.getElem?_take] at h4;have hlt:k * 8+j<i * 8:=by omega
 simpa [hlt] using h4
theorem E3 (w:Wz):(zeroValue 125).run Yq.prog w=.ok (.agg #[.int .i64 0,.pointer none,.bool false,.string ⟨#[]⟩,.string ⟨#[]⟩,.string ⟨#[]⟩,.int .i64 0,.int .i64 0]) w:=by kernel_rfl
theorem CW (w:Wz)(g o n:Nat)(cur:Array Wq)(hg:w.heap[g]?=some (.cells cur 125 (0,0)))(hn:0<n)(hfit:o+n * 8<=cur.size):
  ∃cur':Array Wq,(∀ty c,(Builtin.clear_ #[60] ty #[.slice (some ⟨g,o,none⟩) n c]).run Yq.prog w=.ok (.tuple #[]) (w.setRow g cur'))/\cur'.size=cur.size/\cur'.toList.take o=cur.toList.take o:=by
 have hone:∀v∈(Value.agg #[.int .i64 0,.pointer none,.bool false,.string ⟨#[]⟩,.string ⟨#[]⟩,.string ⟨#[]⟩,.int .i64 0,.int .i64 0]).cells.toList,v.oneCell'=true:=by
  intro v hv;simp [Value.cells] at hv;rcases hv with rfl|rfl|rfl|rfl|rfl|rfl<;>rfl
 obtain ⟨cur',h1,h2,h3⟩:=uN (P:=Yq.prog) w 60 125 0 _ (Yq.u Tryz.underlying60) E3 hone g o n 0 cur 125 hg hn (by simpa [Value.cells] using hfit);have h0:∀ty ty' c c',(Builtin.clear_ #[60] ty #[.slice (some ⟨g,o,none⟩) n c]).run Yq.prog w=(Builtin.clear_ #[60] ty' #[.slice (some ⟨g,o,none⟩) n c']).run Yq.prog w:=fun ty ty' c c'=>by
  obtain ⟨m,rfl⟩:∃m,n=m+1:=⟨n-1,by omega⟩;simp [Builtin.clear_,run_underlying (Yq.u Tryz.underlying60)]
 exact ⟨cur',fun ty c=>(h0 ty 0 c 0).trans h1,h2,h3⟩
theorem sH (l:Lst)(w:Wz):Calls Yq.prog 100 #[lV l] w fun e w'=>e=.returned (.bool (decide (l.left<=0)))/\Below w.heap.size w w':=by
 unfold lV aD;go_enter (Yq.nq Tryz.func100),Tryz.ntmps100;go_wp2_with fail
 go_ret;exact ⟨rfl,(bR _ _).alloc (lR _) _⟩
theorem CX (B:Nat)(va:Option Ww)(vc:Nat)(zs:List (LsA×Option Ww))(w:Wz)(hz:w.ownsRow B 125 8 (.slice va zs.length vc) zs.length (aS zs))(hl:zs.length<=3):
  Calls Yq.prog 71 #[.slice va zs.length vc,.func (.func 100) #[] #[]] w fun e w'=>e=.returned (.int .i64 (((zs.findIdx? kY).map fun (i:Nat)=>(i:Int)).getD (-1)))/\Below w.heap.size w w':=by
 have HZ:Hid (w.ownsRow B 125 8 (.slice va zs.length vc) zs.length (aS zs)):=hz;obtain ⟨R,hR⟩:∃R:Int,R=((zs.findIdx? kY).map fun (i:Nat)=>(i:Int)).getD (-1):=⟨_,rfl⟩;have HR:Hid (R=((zs.findIdx? kY).map fun (i:Nat)=>(i:Int)).getD (-1)):=hR;rw [<-hR];clear hz hR;go_enter (Yq.nq Tryz.func71),Tryz.ntmps71;go_wp2_with fail
 go_loopw [5,8] (fun _ s8 wr=>∃i:Nat,i<=zs.length/\s8=.int .i64 i/\(∀j (hj:j<zs.length),j<i->kY zs[j]=false)/\Below w.heap.size w wr) (fun _ s8 _=>zs.length-(intOf s8).toNat)
 case atStart=>exact ⟨0,Nat.zero_le _,rfl,fun _ _ h=>absurd h (by omega),bR _ _⟩
 case round=>
  obtain ⟨i,hi,rfl,hno,hb⟩:=hrel;by_cases hlt:i<zs.length
  .obtain ⟨g,cap,he⟩:∃g cap,Value.slice va zs.length vc=.slice (some ⟨g,0,none⟩) zs.length cap:=by
    rcases HZ.out.2 with ⟨h1,h2⟩|⟨g,cap,cur,h1,-⟩
    .omega
    .exact ⟨g,cap,h1⟩
   cases he;obtain ⟨q0,q1,q2,q3,q4,q5,q6,q7⟩:=kW HZ.out i hlt;replace q0:=aj hb q0;replace q1:=aj hb q1;replace q2:=aj hb q2;replace q3:=aj hb q3;replace q4:=aj hb q4;replace q5:=aj hb q5;replace q6:=aj hb q6;replace q7:=aj hb q7;have HF:Calls Yq.prog 100 #[.agg #[.int .i64 zs[i].1.num,.pointer zs[i].2,.bool zs[i].1.q.vs,.string zs[i].1.q.p,.string zs[i].1.q.d,.string zs[i].1.q.af,.int .i64 zs[i].1.size,.int .i64 zs[i].1.left]] wr fun e w'=>e=.returned (.bool (kY zs[i]))/\Below wr.heap.size wr w':=sH (zs[i].1.lst zs[i].2) wr
   have HNO:Hid ((∀j (hj:j<zs.length),j<i->kY zs[j]=false)/\Below w.heap.size w wr):=⟨hno,hb⟩;clear hno hb;cases hb2:kY zs[i] with
   |true=>
    rw [hb2] at HF;have HE:Hid (R=(i:Int)):=by
     show R=(i:Int);have:zs.findIdx? kY=some i:=by
      rw [List.findIdx?_eq_some_iff_getElem];refine ⟨hlt,hb2,fun j hj=>?_⟩;have:=HNO.out.1 j (by omega) hj;simp [this]
     rw [HR.out,this];rfl
    go_wp2_with (go_at_call 100;refine HF.mono ?_;clear HF;rintro e w1 ⟨rfl,hb1⟩)
    go_ret;exact ⟨by rw [HE.out];rfl,HNO.out.2.trans (hb1.mono HNO.out.2.size)⟩
   |false=>
    rw [hb2] at HF;go_wp2_with (go_at_call 100;refine HF.mono ?_;clear HF;rintro e w1 ⟨rfl,hb1⟩)
    refine ⟨⟨i+1,by omega,by go_num,fun j hj hji=>?_,HNO.out.2.trans (hb1.mono HNO.out.2.size)⟩,by simp [intOf];omega⟩;by_cases hj2:j=i
    .subst hj2;exact hb2
    .exact HNO.out.1 j hj (by omega)
  .have:i=zs.length:=by omega
   subst this;go_wp2_with fail
   go_ret;refine ⟨?_,hb⟩;have:zs.findIdx? kY=none:=by
    rw [List.findIdx?_eq_none_iff];intro z hz;obtain ⟨j,hj,rfl⟩:=gM hz;exact hno j hj hj
   rw [HR.out,this];rfl
theorem jy {zs:List (LsA×Option Ww)}{j:Nat}(hj:j<zs.length):(zs.take (j+1)).filter gL=(zs.take j).filter gL++(if gL zs[j] then [zs[j]] else []):=by
 rw [tS hj,List.filter_append];congr 1;by_cases h:gL zs[j]=true
 .simp [h]
 .simp [h]
theorem AH (B:Nat)(va:Option Ww)(vc:Nat)(zs:List (LsA×Option Ww))(w:Wz)(hz:w.ownsRow B 125 8 (.slice va zs.length vc) zs.length (aS zs))(hl:zs.length<=3):
  Calls Yq.prog 99 #[.slice va zs.length vc,.func (.func 100) #[] #[]] w fun e w'=>∃v',e=.returned v'/\w'.ownsRow B 125 8 v' (zs.filter gL).length (aS (zs.filter gL))/\(∀g,v'.ownBlock=some g->(Value.slice va zs.length vc).ownBlock=some g)/\di (Value.slice va zs.length vc).ownBlock w w':=by
 have HIX:=CX B va vc zs w hz hl;cases hp:zs.findIdx? kY with
 |none=>
  rw [hp] at HIX;simp only [Option.map_none,Option.getD_none] at HIX;have hall:zs.filter gL=zs:=by
   rw [List.filter_eq_self];intro z hz;have:=List.findIdx?_eq_none_iff.1 hp z hz;simp [gL,this]
  rw [hall];have HZ:Hid (w.ownsRow B 125 8 (.slice va zs.length vc) zs.length (aS zs)):=hz;clear hz hall hp;go_enter (Yq.nq Tryz.func99),Tryz.ntmps99;go_wp2_with (go_at_call 71;refine HIX.mono ?_;clear HIX;rintro e w1 ⟨rfl,hb1⟩)
  go_ret;exact ⟨_,rfl,aX HZ.out fun g _ hg=>hb1.block g hg,fun _ h=>h,.below hb1⟩
 |some p=>
  rw [hp] at HIX;simp only [Option.map_some,Option.getD_some] at HIX;obtain ⟨hp1,hp2,hp3⟩:=List.findIdx?_eq_some_iff_getElem.1 hp;obtain ⟨g,cap,he⟩:∃g cap,Value.slice va zs.length vc=.slice (some ⟨g,0,none⟩) zs.length cap:=by
   rcases hz.2 with ⟨h1,h2⟩|⟨g,cap,cur,h1,-⟩
   .omega
   .exact ⟨g,cap,h1⟩
  cases he;have hR0:=mH.of_owns hz;have HS:Hid (mH B w g vc zs/\(zs.take (p+1)).filter gL=zs.take p):=by
   refine ⟨hR0,?_⟩;rw [jy hp1];have e1:(zs.take p).filter gL=zs.take p:=by
    rw [List.filter_eq_self];intro z hz;obtain ⟨j,hj,rfl⟩:=gM hz;have hj':j<p:=by simp at hj;omega
    have:=hp3 j hj';rw [List.getElem_take];simpa [gL] using this
   rw [e1];simp [gL,hp2]
  have hpI:((p:Int) == -1)=false:=by simp
  have hpI2:¬((p:Int)=-1):=by omega
  have hvc:zs.length<=vc:=hR0.le;clear hz hp hp2 hp3 hR0;go_enter (Yq.nq Tryz.func99),Tryz.ntmps99;go_wp2_with (go_at_call 71;refine HIX.mono ?_;clear HIX;rintro e w1 ⟨rfl,hb1⟩)
  go_loopw [5,6,7] (fun s5 s6 _ wr=>∃ (i j:Nat) (ys:List (LsA×Option Ww)),s5=.int .i64 i/\s6=.int .i64 j/\j<=zs.length/\i<j/\ys.length=zs.length/\ys.take i=(zs.take j).filter gL/\ys.drop j=zs.drop j/\mH B wr g vc ys/\di (some g) w wr) (fun _ s6 _ _=>zs.length-(intOf s6).toNat)
  case atStart=>exact ⟨p,p+1,zs,rfl,by go_num,hp1,by omega,rfl,HS.out.2.symm,rfl,HS.out.1.same (hb1.block g HS.out.1.lt),.below hb1⟩
  case round=>
   obtain ⟨i,j,ys,rfl,rfl,hj,hij,hys,htk,hdr,hrow,hleft⟩:=hrel;by_cases hlt:j<zs.length
   .have hjy:j<ys.length:=by omega
    have hiy:i<ys.length:=by omega
    have eyj:ys[j]=zs[j]:=by
     have h1:(ys.drop j)[0]?=(zs.drop j)[0]?:=by rw [hdr]
     rw [List.getElem?_drop,List.getElem?_drop,Nat.add_zero,eL hjy,eL hlt] at h1;exact oJ h1
    have hc:=hrow.cells j hjy;rw [eyj] at hc;have q0:=hc 0 (by omega);have q1:=hc 1 (by omega);have q2:=hc 2 (by omega);have q3:=hc 3 (by omega);have q4:=hc 4 (by omega);have q5:=hc 5 (by omega);have q6:=hc 6 (by omega);have q7:=hc 7 (by omega);simp only [aD,LsA.lst,gA,gZ,gS,Nat.add_zero] at q0 q1 q2 q3 q4 q5 q6 q7;obtain ⟨W,hW⟩:∃W,W=wr.alloc (.cells #[.int .i64 zs[j].1.num,.pointer zs[j].2,.bool zs[j].1.q.vs,.string zs[j].1.q.p,.string zs[j].1.q.d,.string zs[j].1.q.af,.int .i64 zs[j].1.size,.int .i64 zs[j].1.left] 125):=⟨_,rfl⟩;have HF:Calls Yq.prog 100 #[.agg #[.int .i64 zs[j].1.num,.pointer zs[j].2,.bool zs[j].1.q.vs,.string zs[j].1.q.p,.string zs[j].1.q.d,.string zs[j].1.q.af,.int .i64 zs[j].1.size,.int .i64 zs[j].1.left]] W fun e w'=>e=.returned (.bool (kY zs[j]))/\Below W.heap.size W w':=sH (zs[j].1.lst zs[j].2) W
    have hgl:=hrow.lt;have HI:Hid (ys.length=zs.length/\ys.take i=(zs.take j).filter gL/\ys.drop j=zs.drop j/\mH B wr g vc ys/\di (some g) w wr):=⟨hys,htk,hdr,hrow,hleft⟩;have HB:Hid (∀w2,Below W.heap.size W w2->di (some g) w w2/\mH B w2 g vc ys /\
      (w2.cell? ⟨wr.heap.size,0,none⟩=some (.int .i64 zs[j].1.num)/\w2.cell? ⟨wr.heap.size,1,none⟩=some (.pointer zs[j].2)/\w2.cell? ⟨wr.heap.size,2,none⟩=some (.bool zs[j].1.q.vs)/\w2.cell? ⟨wr.heap.size,3,none⟩=some (.string zs[j].1.q.p)/\w2.cell? ⟨wr.heap.size,4,none⟩=some (.string zs[j].1.q.d)/\w2.cell? ⟨wr.heap.size,5,none⟩=some (.string zs[j].1.q.af)/\w2.cell? ⟨wr.heap.size,6,none⟩=some (.int .i64 zs[j].1.size)/\w2.cell? ⟨wr.heap.size,7,none⟩=some (.int .i64 zs[j].1.left))):=fun w2 hb2=>by
     have hbw:Below wr.heap.size wr W:=by rw [hW];exact (bR _ _).alloc (lR _) _
     have e:w2.heap[wr.heap.size]?=some (.cells #[.int .i64 zs[j].1.num,.pointer zs[j].2,.bool zs[j].1.q.vs,.string zs[j].1.q.p,.string zs[j].1.q.d,.string zs[j].1.q.af,.int .i64 zs[j].1.size,.int .i64 zs[j].1.left] 125):=by
      rw [hb2.block _ (by rw [hW];simp),hW];exact aN _ _
     refine ⟨hleft.trans ((di.below hbw).trans (.below hb2)),hrow.same ((hb2.block g (by have:=hbw.size;omega)).trans (hbw.block g hgl)),?_⟩;refine ⟨?_,?_,?_,?_,?_,?_,?_,?_⟩<;>simp [World.cell?,e]
    clear hys htk hdr hrow hleft hc eyj;cases hov:kY zs[j] with
    |true=>
     rw [hov] at HF;rw [hW] at HF;go_wp2_with (go_at_call 100;refine HF.mono ?_;clear HF;rintro e w2 ⟨rfl,hb2⟩)
     obtain ⟨h1,h2,-⟩:=HB.out w2 (by rw [hW];exact hb2);obtain ⟨k1,k2,k3,-,-⟩:=HI.out;refine ⟨⟨i,j+1,ys,rfl,by go_num,by omega,by omega,k1,?_,?_,h2,h1⟩,by simp [intOf];omega⟩
     .rw [jy hlt,k2];simp [gL,hov]
     .have:=congrArg (List.drop 1) k3
      rwa [List.drop_drop,List.drop_drop] at this
    |false=>
     rw [hov] at HF;rw [hW] at HF;go_wp2_with (go_at_call 100;refine HF.mono ?_;clear HF;rintro e w2 ⟨rfl,hb2⟩;obtain ⟨hl2,hr2,b0,b1,b2,b3,b4,b5,b6,b7⟩:=HB.out w2 (by rw [hW];exact hb2);have hc:=hr2.cells i hiy;have p0:=hc 0 (by omega);have p1:=hc 1 (by omega);have p2:=hc 2 (by omega);have p3:=hc 3 (by omega);have p4:=hc 4 (by omega);have p5:=hc 5 (by omega);have p6:=hc 6 (by omega);have p7:=hc 7 (by omega);simp only [aD,LsA.lst,gA,gZ,gS,Nat.add_zero] at p0 p1 p2 p3 p4 p5 p6 p7;have f0:=hr2.frozen (i * 8);have f1:=hr2.frozen (i * 8+1);have f2:=hr2.frozen (i * 8+2);have f3:=hr2.frozen (i * 8+3);have f4:=hr2.frozen (i * 8+4);have f5:=hr2.frozen (i * 8+5);have f6:=hr2.frozen (i * 8+6);have f7:=hr2.frozen (i * 8+7);have HE:Hid (_/\_):=And.intro hl2 hr2;clear hl2 hr2 hc)
     obtain ⟨k1,k2,k3,-,-⟩:=HI.out;refine ⟨⟨i+1,j+1,ys.set i zs[j],by go_num,by go_num,by omega,by omega,by simp [k1],?_,?_,HE.out.2.set8 i hiy zs[j],?_⟩,by simp [intOf];omega⟩
     .rw [jy hlt,<-k2,tS (by simpa using hiy),List.getElem_set_self];have:(ys.set i zs[j]).take i=ys.take i:=by rw [List.take_set];exact List.set_eq_of_length_le (by simp;omega)
      rw [this];simp [gL,hov]
     .rw [List.drop_set_of_lt (by omega)];have:=congrArg (List.drop 1) k3
      rwa [List.drop_drop,List.drop_drop] at this
     .exact HE.out.1.trans (di.set8 (l:=zs[j].1.lst zs[j].2))
   .have:j=zs.length:=by omega
    subst this;obtain ⟨cur,hcur,hcs⟩:=hrow.obj;obtain ⟨cur',hcl0,hs',ht'⟩:=CW wr g (i * 8) (zs.length-i) cur hcur (by omega) (by omega);have HEN:Hid (mH B (wr.setRow g cur') g vc (zs.filter gL)/\(zs.filter gL).length=i/\di (some g) w (wr.setRow g cur')):=by
     have hr:=hrow.cut hcur hs' ht' (by omega);rw [htk,tO (lR _)] at hr;refine ⟨hr,?_,hleft.trans (di.setRow hcur)⟩;have:=congrArg List.length htk;rw [tO (lR zs.length),tL] at this;omega
    clear hrow hleft htk hdr hys hcur hs' ht';go_wp2_with fail
    go_ret;obtain ⟨e1,e2,e3⟩:=HEN.out;have e4:=e1.owns;rw [e2] at e4 ⊢;exact ⟨_,rfl,e4,fun _ h=>h,e3⟩
def qt (L:Lg)(u:Int):Lg:={L with opened:=(L.opened.map fun x=>x.again (x.left-u)).filter fun x=>!decide (x.left<=0)}
section
variable {A:Nat->Prop} {B k0:Nat} {L:Lg}
theorem dh.reopen {w w':Wz}(h:dh A B w k0 L){v v':Wq}{zs ys:List (LsA×Option Ww)}(c4:w.cell? ⟨k0,4,none⟩=some v)(z2:w.ownsRow B 125 8 v zs.length (aS zs))(z3:∀g,v.ownBlock=some g->¬A g)(ho:w'.ownsRow B 125 8 v' ys.length (aS ys))(hvb:∀g,v'.ownBlock=some g->v.ownBlock=some g)(hl:di v.ownBlock w w')(hy:∀z∈ys,ai A 41 w z.2 z.1.f):
  dh A B (w'.setCell ⟨k0,4,none⟩ v') k0 {L with opened:=ys.map (·.1)}/\aI A B k0 w (w'.setCell ⟨k0,4,none⟩ v')/\FrC k0 w (w'.setCell ⟨k0,4,none⟩ v'):=by
 have hk:=h.low;have hlt:=h.lt;obtain ⟨mv,c6,hm⟩:=h.told;have hvk:∀g,v.ownBlock=some g->B<=g:=fun g hg=>(z2.lt g hg).1
 have hbk:w'.heap[k0]?=w.heap[k0]?:=hl.block k0 hlt (fun e=>by have:=hvk k0 e;omega);have hset:∀b,b≠k0->(w'.setCell ⟨k0,4,none⟩ v').heap[b]?=w'.heap[b]?:=fun b hb=>bS _ _ _ _ hb
 have hA3:∀b,A b->(w'.setCell ⟨k0,4,none⟩ v').heap[b]?=w.heap[b]?:=fun b hb=>(hset b (fun e=>h.avoid (e▸hb))).trans (hl.block b (h.inn b hb) (fun e=>z3 b e hb))
 have hc3:∀j,w'.cell? ⟨k0,j,none⟩=w.cell? ⟨k0,j,none⟩:=fun j=>cB (a:=⟨k0,j,none⟩) hbk
 have hcj:∀j,j≠4->(w'.setCell ⟨k0,4,none⟩ v').cell? ⟨k0,j,none⟩=w.cell? ⟨k0,j,none⟩:=fun j h4=>by
  rw [cO _ _ _ _ (aV fun e=>h4 e.symm),hc3]
 have hfz:∀j,(w'.setCell ⟨k0,4,none⟩ v').frozen? ⟨k0,j,none⟩=w.frozen? ⟨k0,j,none⟩:=fun j=>by
  rw [World.frozen?_setCell];exact fB (a:=⟨k0,j,none⟩) hbk
 have hsz:w.heap.size<=(w'.setCell ⟨k0,4,none⟩ v').heap.size:=by have:=hl.size;simpa using this
 refine ⟨⟨⟨v',?_,ys,rfl,ep ho fun g hg=>hset g (by have:=(ho.lt g hg).1;omega),fun g hg=>z3 g (hvb g hg),fun z hz=>ai.keep (fun b hb _=>⟨hb,hA3 b hb⟩) 41 _ _ (hy z hz)⟩,(hcj 5 (by omega)).trans h.begun,⟨mv,(hcj 6 (by omega)).trans c6,?_⟩,fun j=>(hfz j).trans (h.frozen j),h.avoid,h.low,fun b hb=>lL (h.inn b hb) hsz⟩,⟨hl.os,hsz,fun b h1 h2 h3=>(hset b h3).trans (hl.block b h2 (fun e=>by have:=hvk b e;omega)),fun b hb _=>hA3 b hb,fun j hj=>hcj j (by omega),hfz⟩,?_⟩
 rotate_right
 .refine ⟨hsz,fun b hb hbk ho=>(hset b hbk).trans (hl.block b hb.lt (fun e=>ho ⟨v,c4,e⟩)),fun b ho=>?_⟩;obtain ⟨x,h1,h2⟩:=ho;rw [cS _ _ _ (by rw [hc3,c4];rfl)] at h1;cases h1;exact .inl ⟨v,c4,hvb b h2⟩
 .exact cS _ _ _ (by rw [hc3,c4];rfl)
 .rcases hm with hm|⟨m,es,clock,m1,m2,m3,m4,m5⟩
  .exact .inl hm
  .refine .inr ⟨m,es,clock,m1,?_,m3,m4,m5⟩;rw [hset m (by omega),hl.block m (eS m2).1 (fun e=>?_)]
   .exact m2
   .rcases z2.2 with ⟨rfl,-⟩|⟨g,cap,cur,rfl,hb,hr,-⟩
    .cases e
    .cases e;rw [hr] at m2;cases m2
def FC (u:Int)(z:LsA×Option Ww):LsA×Option Ww:=(z.1.again (z.1.left-u),z.2)
theorem E5 (w:Wz)(h:dh A B w k0 L)(hop:L.opened.length<=3)(u:Int)(hu:0<=u/\u<=1000)(hlf:∀x∈L.opened,0<=x.left/\x.left<=10):
  Calls Yq.prog 75 #[.pointer (some ⟨k0,4,none⟩),.int .i64 u] w fun e w'=>e=.returned (.tuple #[])/\dh A B w' k0 (qt L u)/\aI A B k0 w w'/\FrC k0 w w':=by
 obtain ⟨v4,c4,zs,z1,z2,z3,z4⟩:=h.opened;obtain ⟨va4,vc4,rfl,-⟩:=aw z2;have hlz:L.opened.length=zs.length:=by rw [z1];simp
 have hlt:=h.lt;have hlf':∀i (hi:i<zs.length),0<=zs[i].1.left/\zs[i].1.left<=10:=fun i hi=>hlf _ (by rw [z1];exact List.mem_map.2 ⟨zs[i],List.getElem_mem hi,rfl⟩)
 have hzl:zs.length<=3:=by omega
 obtain ⟨yz,hyz⟩:∃yz:Nat->List (LsA×Option Ww),yz=fun i=>(zs.take i).map (FC u)++zs.drop i:=⟨_,rfl⟩
 have hylen:∀i,(yz i).length=zs.length:=fun i=>by rw [hyz];simp;omega
 have HY:Hid (yz=fun i=>(zs.take i).map (FC u)++zs.drop i):=hyz;have HL:Hid (dh A B w k0 L/\(L.opened=zs.map (·.1))/\w.ownsRow B 125 8 (.slice va4 zs.length vc4) zs.length (aS zs)/\(∀g,(Value.slice va4 zs.length vc4).ownBlock=some g->¬A g)/\(∀z∈zs,ai A 41 w z.2 z.1.f)):=⟨h,z1,z2,z3,z4⟩;clear hyz z1 z2 z3 z4 hlf h;go_enter (Yq.nq Tryz.func75),Tryz.ntmps75;go_wp2_with fail
 go_loopw [4,10] (fun _ s10 wr=>∃i:Nat,i<=zs.length/\s10=.int .i64 i/\dh A B wr k0 {L with opened:=(yz i).map (·.1)}/\aI A B k0 w wr/\FrC k0 w wr/\wr.cell? ⟨k0,4,none⟩=some (.slice va4 zs.length vc4)/\wr.ownsRow B 125 8 (.slice va4 zs.length vc4) (yz i).length (aS (yz i))/\∀z∈yz i,ai A 41 wr z.2 z.1.f) (fun _ s10 _=>zs.length-(intOf s10).toNat)
 case atStart=>
  have e0:yz 0=zs:=by rw [HY.out];simp
  obtain ⟨h1,h2,h3,h4,h5⟩:=HL.out;refine ⟨0,Nat.zero_le _,rfl,?_,aI.refl,FrC.refl,c4,?_,?_⟩
  .rw [e0,<-h2];exact h1
  .rw [e0];exact h3
  .rw [e0];exact h5
 case round=>
  obtain ⟨i,hi,rfl,hls,hdr,hfr,k4,hown,hnd⟩:=hrel;by_cases hlt2:i<zs.length
  .obtain ⟨g,cap,he⟩:∃g cap,Value.slice va4 zs.length vc4=.slice (some ⟨g,0,none⟩) zs.length cap:=by
    rcases HL.out.2.2.1.2 with ⟨h1,h2⟩|⟨g,cap,cur,h1,-⟩
    .omega
    .exact ⟨g,cap,h1⟩
   cases he;have hiy:i<(yz i).length:=by rw [hylen];exact hlt2
   have eyi:(yz i)[i]=zs[i]:=by
    have:(yz i)[i]?=some zs[i]:=by
     rw [HY.out];simp only;rw [aR (by simp;omega)];simp;rw [Nat.min_eq_left (by omega)];simp [hlt2]
    rw [eL hiy] at this;exact oJ this
   have hown2:wr.ownsRow B 125 8 (.slice (some ⟨g,0,none⟩) (yz i).length vc4) (yz i).length (aS (yz i)):=by rw [hylen] at hown ⊢;exact hown
   have q7:=(kW hown2 i hiy).2.2.2.2.2.2.2;rw [eyi] at q7;have f7:=(mH.of_owns hown2).frozen (i * 8+7);have k4':wr.cell? ⟨k0,4,none⟩=some (.slice (some ⟨g,0,none⟩) (yz i).length vc4):=by rw [hylen];exact k4
   obtain ⟨hlo,hhi⟩:=hlf' i hlt2;have hwr:wrap64 (zs[i].1.left-u)=zs[i].1.left-u:=by unfold wrap64;omega
   have hnext:=hls.setLeft k4' rfl hown2 (HL.out.2.2.2.1 g rfl) hnd i hiy (zs[i].1.left-u);rw [eyi] at hnext;have eset:(yz i).set i (zs[i].1.again (zs[i].1.left-u),zs[i].2)=yz (i+1):=by
    rw [HY.out];simp only;rw [List.set_append_right _ _ (by simp;omega),tS hlt2,List.map_append,pA];congr 1;have e0:i-(List.map (FC u) (List.take i zs)).length=0:=by simp;omega
    rw [e0,List.drop_eq_getElem_cons hlt2,List.set_cons_zero];simp [FC]
   have HN:Hid (dh A B (wr.setCell ⟨g,i * 8+7,none⟩ (.int .i64 (zs[i].1.left-u))) k0 {L with opened:=(yz (i+1)).map (·.1)}/\aI A B k0 w (wr.setCell ⟨g,i * 8+7,none⟩ (.int .i64 (zs[i].1.left-u)))/\FrC k0 w (wr.setCell ⟨g,i * 8+7,none⟩ (.int .i64 (zs[i].1.left-u)))/\(wr.setCell ⟨g,i * 8+7,none⟩ (.int .i64 (zs[i].1.left-u))).cell? ⟨k0,4,none⟩=some (.slice (some ⟨g,0,none⟩) zs.length vc4)/\(wr.setCell ⟨g,i * 8+7,none⟩ (.int .i64 (zs[i].1.left-u))).ownsRow B 125 8 (.slice (some ⟨g,0,none⟩) zs.length vc4) (yz (i+1)).length (aS (yz (i+1)))/\∀z∈yz (i+1),ai A 41 (wr.setCell ⟨g,i * 8+7,none⟩ (.int .i64 (zs[i].1.left-u))) z.2 z.1.f):=by
    rw [<-eset];obtain ⟨n1,n2,n3,n4⟩:=hnext;refine ⟨?_,hdr.trans n2,hfr.trans (FrC.open ⟨_,k4,rfl⟩ (by have:=(hown2.lt g rfl).1;have:=hls.low;omega)),?_,?_,n4⟩
    .rw [List.map_set];exact n1
    .rw [cB (w:=wr) (a:=⟨k0,4,none⟩) (bS _ _ _ _ (show k0≠g by have:=(hown2.lt g rfl).1;have:=hls.low;omega))];exact k4
    .rw [hylen] at n3;exact n3
   clear hls hdr hfr hown hnd hown2 hnext eset k4';go_wp2_with fail
   exact ⟨⟨i+1,by omega,by go_num,HN.out⟩,by simp [intOf];omega⟩
  .have:i=zs.length:=by omega
   subst this;have eyn:yz zs.length=zs.map (FC u):=by rw [HY.out];simp
   have hDEL:=AH B va4 vc4 (yz zs.length) wr (by rw [hylen] at hown ⊢;exact hown) (by rw [hylen];omega);rw [hylen] at hDEL;have HFR:Hid (FrC k0 w wr):=hfr;have HE:Hid (dh A B wr k0 {L with opened:=(yz zs.length).map (·.1)}/\aI A B k0 w wr/\wr.ownsRow B 125 8 (.slice va4 zs.length vc4) (yz zs.length).length (aS (yz zs.length))/\(∀z∈yz zs.length,ai A 41 wr z.2 z.1.f)/\yz zs.length=zs.map (FC u)):=⟨hls,hdr,hown,hnd,eyn⟩;have HC:Hid (∀w2,di (Value.slice va4 zs.length vc4).ownBlock wr w2->w2.cell? ⟨k0,4,none⟩=some (.slice va4 zs.length vc4)/\w2.frozen? ⟨k0,4,none⟩=false):=fun w2 hl2=>by
    have e:w2.heap[k0]?=wr.heap[k0]?:=hl2.block k0 hls.lt (fun e=>by have:=(hown.lt k0 e).1;have:=hls.low;omega);exact ⟨(cB (a:=⟨k0,4,none⟩) e).trans k4,(fB (a:=⟨k0,4,none⟩) e).trans (hls.frozen 4)⟩
   clear hls hdr hfr hown hnd eyn;go_wp2_with (go_at_call 99;refine hDEL.mono ?_;clear hDEL;rintro e w2 ⟨v',rfl,ho',hvb,hl'⟩;obtain ⟨va',vc',rfl,-⟩:=aw ho';obtain ⟨d4,g4⟩:=HC.out w2 hl';have HD:Hid (_/\_/\_):=And.intro ho' (And.intro hvb hl');clear ho' hvb hl')
   go_end0;obtain ⟨h1,h2,h3,h4,h5⟩:=HE.out;obtain ⟨ho',hvb,hl'⟩:=HD.out;obtain ⟨r1,r2,r3⟩:=h1.reopen k4 h3 HL.out.2.2.2.1 ho' hvb hl' (fun z hz=>h4 z (List.mem_filter.1 hz).1);refine ⟨rfl,?_,h2.trans r2,HFR.out.trans r3⟩;have e:qt L u={L with opened:=((yz zs.length).filter gL).map (·.1)}:=by
    unfold qt;congr 1;rw [h5,HL.out.2.1,List.map_map,List.filter_map,List.filter_map,List.map_map];rfl
   rw [e];exact r1
end
theorem wv (k0:Nat)(p:Option Ww)(w:Wz)(c0:w.cell? ⟨k0,0,none⟩=some (.pointer p)):Calls Yq.prog 41 #[.pointer (some ⟨k0,0,none⟩)] w fun e w'=>e=.returned (.agg #[.pointer p])/\w'=w.alloc (.cells #[.pointer p] 56):=by
 have hlt:k0<w.heap.size:=bC w _ c0;go_enter (Yq.nq Tryz.func41),Tryz.ntmps41;go_wp2_with fail
 exact bodyPost_ret (v:=.agg #[.pointer p]) (by simp [results,Tryz.results41,go_sem]) rfl ⟨rfl,rfl⟩
theorem CY (k0:Nat)(n:Int)(w:Wz)(c1:w.cell? ⟨k0,1,none⟩=some (.int .i64 n)):Calls Yq.prog 46 #[.pointer (some ⟨k0,0,none⟩)] w fun e w'=>e=.returned (.int .i64 n)/\w'=w:=by
 go_enter (Yq.nq Tryz.func46),Tryz.ntmps46;go_wp2_with fail
 go_ret;exact ⟨rfl,rfl⟩
theorem CZ (vs:Bool)(p d af:ByteArray)(w:Wz):(Instr.build 93 #[(0,.bool vs),(1,.string p),(2,.string d),(3,.string af)]).run Yq.prog w=.ok (.agg #[.bool vs,.string p,.string d,.string af]) w:=by kernel_rfl
theorem ww (o:OpD)(w:Wz):Calls Yq.prog 42 #[cj o] w fun e w'=>e=.returned (qV (o.kind==7) o.key o.delim o.past)/\Below w.heap.size w w':=by
 obtain ⟨kind,key,body,delim,past,n,src⟩:=o;have hb:=CZ;unfold cj qV;go_enter (Yq.nq Tryz.func42),Tryz.ntmps42;go_wp2_with fail
 exact bodyPost_ret (v:=.agg #[.bool (kind==7),.string key,.string delim,.string past]) (by simp [results,Tryz.results42,go_sem]) rfl ⟨rfl,((bR _ _).alloc (lR _) _).alloc (by simp) _⟩
theorem C0 (k0:Nat)(n u:Int)(w:Wz)(c3:w.cell? ⟨k0,3,none⟩=some (.int .u64 n))(f3:w.frozen? ⟨k0,3,none⟩=false):Calls Yq.prog 74 #[.pointer (some ⟨k0,0,none⟩),.int .i64 u] w fun e w'=>e=.returned (.tuple #[])/\w'=w.setCell ⟨k0,3,none⟩ (.int .u64 (IntKind.u64.wrap (n+u))):=by
 go_enter (Yq.nq Tryz.func74),Tryz.ntmps74;go_wp2_with fail
 go_end0;exact ⟨rfl,by congr 2;simp [IntKind.wrap,IntKind.bits,IntKind.signed]⟩
theorem wz (k0:Nat)(a:Option Ww)(n c:Nat)(s:Int)(w:Wz)(_hn:n<=2199023255552)(c8:w.cell? ⟨k0,8,none⟩=some (.slice a n c)):Calls Yq.prog 73 #[.pointer (some ⟨k0,0,none⟩),.int .i64 s] w fun e w'=>e=.returned (.bool (decide (0<=s/\s<n)))/\w'=w:=by
 by_cases h1:0<=s
 .by_cases h2:s<n
  .have e:decide (0<=s/\s<n)=true:=by simp [h1,h2]
   rw [e];go_enter (Yq.nq Tryz.func73),Tryz.ntmps73;go_wp2_with fail
   go_ret;exact ⟨rfl,rfl⟩
  .have e:decide (0<=s/\s<n)=false:=by simp [h2]
   rw [e];go_enter (Yq.nq Tryz.func73),Tryz.ntmps73;go_wp2_with fail
   go_ret;exact ⟨by simp,rfl⟩
 .have e:decide (0<=s/\s<n)=false:=by simp [h1]
  rw [e];go_enter (Yq.nq Tryz.func73),Tryz.ntmps73;go_wp2_with fail
  go_ret;exact ⟨rfl,rfl⟩
structure aH (A:Nat->Prop)(B:Nat)(w:Wz)(k0:Nat)(st:St)(L:Lg):Prop where
 store:ax A w k0 st
 ls:dh A B w k0 L
 time:w.cell? ⟨k0,3,none⟩=some (.int .u64 L.tm)
structure dR (A:Nat->Prop)(B k0:Nat)(w w':Wz):Prop where
 os:w'.os=w.os
 size:w.heap.size<=w'.heap.size
 low:∀b,b<B->b<w.heap.size->b≠k0->w'.heap[b]?=w.heap[b]?
 tree:∀b,A b->b<w.heap.size->w'.heap[b]?=w.heap[b]?
 cells:∀j,6<j->w'.cell? ⟨k0,j,none⟩=w.cell? ⟨k0,j,none⟩
 fz:∀j,w'.frozen? ⟨k0,j,none⟩=w.frozen? ⟨k0,j,none⟩
section
variable {A A':Nat->Prop} {B k0:Nat} {w w' w'':Wz} {st:St} {L L':Lg}
theorem aI.weak (h:aI A B k0 w w'):dR A B k0 w w':=⟨h.os,h.size,h.low,h.tree,fun j hj=>h.cells j (.inr hj),h.fz⟩
theorem dR.trans (h:dR A B k0 w w')(k:dR A B k0 w' w''):dR A B k0 w w'':=
 ⟨k.os.trans h.os,lT h.size k.size,fun b h1 h2 h3=>(k.low b h1 (lL h2 h.size) h3).trans (h.low b h1 h2 h3),fun b h1 h2=>(k.tree b h1 (lL h2 h.size)).trans (h.tree b h1 h2),fun j hj=>(k.cells j hj).trans (h.cells j hj),fun j=>(k.fz j).trans (h.fz j)⟩
theorem ax.desk (S:ax A w k0 st)(hd:aI A B k0 w w')(hA:∀b,A b->A' b)(hk:¬A' k0):ax A' w' k0 st:=by
 obtain ⟨p,c0,hN⟩:=S.tree;exact ⟨fun b hb e=>hk (e▸hb),⟨p,(hd.cells 0 (.inl (by omega))).trans c0,ai.keep (fun b hb hlt=>⟨hA b hb,hd.tree b hb hlt⟩) 41 _ _ hN⟩,(hd.cells 1 (.inl (by omega))).trans S.count,(hd.cells 2 (.inl (by omega))).trans S.last,fun j=>(hd.fz j).trans (S.frozen j)⟩
theorem aH.step (h:aH A B w k0 st L)(hd:aI A B k0 w w')(hA:∀b,A b->A' b)(hl:dh A' B w' k0 L')(ht:L'.tm=L.tm):aH A' B w' k0 st L':=
 ⟨h.store.desk hd hA hl.avoid,hl,by rw [ht];exact (hd.cells 3 (.inl (by omega))).trans h.time⟩
theorem aH.setTime (h:aH A B w k0 st L)(m:Int):aH A B (w.setCell ⟨k0,3,none⟩ (.int .u64 m)) k0 st {L with tm:=m}/\dR A B k0 w (w.setCell ⟨k0,3,none⟩ (.int .u64 m)):=by
 have hne:∀b,b≠k0->(w.setCell ⟨k0,3,none⟩ (.int .u64 m)).heap[b]?=w.heap[b]?:=fun b hb=>bS _ _ _ _ hb
 have hc:∀j,j≠3->(w.setCell ⟨k0,3,none⟩ (.int .u64 m)).cell? ⟨k0,j,none⟩=w.cell? ⟨k0,j,none⟩:=fun j hj=>cO _ _ _ _ (aV (by omega))
 have hf:∀j,(w.setCell ⟨k0,3,none⟩ (.int .u64 m)).frozen? ⟨k0,j,none⟩=w.frozen? ⟨k0,j,none⟩:=fun j=>World.frozen?_setCell ..
 have hA:∀b,A b->(w.setCell ⟨k0,3,none⟩ (.int .u64 m)).heap[b]?=w.heap[b]?:=fun b hb=>hne b (fun e=>h.ls.avoid (e▸hb))
 have c3:=h.time;obtain ⟨p,c0,hN⟩:=h.store.tree;obtain ⟨v,c4,zs,z1,z2,z3,z4⟩:=h.ls.opened;obtain ⟨mv,c6,hm⟩:=h.ls.told;have hlow:=h.ls.low;refine ⟨⟨⟨h.store.avoid,⟨p,(hc 0 (by omega)).trans c0,ai.keep (fun b hb _=>⟨hb,hA b hb⟩) 41 _ _ hN⟩,(hc 1 (by omega)).trans h.store.count,(hc 2 (by omega)).trans h.store.last,fun j=>(hf j).trans (h.store.frozen j)⟩,⟨⟨v,(hc 4 (by omega)).trans c4,zs,z1,ep z2 fun g hg=>hne g (by have:=(z2.lt g hg).1;omega),z3,fun z hz=>ai.keep (fun b hb _=>⟨hb,hA b hb⟩) 41 _ _ (z4 z hz)⟩,(hc 5 (by omega)).trans h.ls.begun,⟨mv,(hc 6 (by omega)).trans c6,?_⟩,fun j=>(hf j).trans (h.ls.frozen j),h.ls.avoid,h.ls.low,fun b hb=>by simpa using h.ls.inn b hb⟩,cS _ _ _ (by rw [c3];rfl)⟩,⟨rfl,by simp,fun b _ _ hb=>hne b hb,fun b hb _=>hA b hb,fun j hj=>hc j (by omega),hf⟩⟩;rcases hm with hm|⟨m',es,clock,m1,m2,m3⟩
 .exact .inl hm
 .exact .inr ⟨m',es,clock,m1,(hne m' (by have:=m3.2.2;omega)).trans m2,m3⟩
def iC (L:Lg)(u:Int):Lg×Int:=if u<0\/1000<u then (L,11) else (qt {L with tm:=IntKind.u64.wrap (L.tm+u)} u,0)
theorem E6 (w:Wz)(h:aH A B w k0 st L)(hop:L.opened.length<=3)(u:Int)(hlf:∀x∈L.opened,0<=x.left/\x.left<=10):
  Calls Yq.prog 45 #[.pointer (some ⟨k0,0,none⟩),.int .i64 u] w fun e w'=>e=.returned (.int .i64 (iC L u).2)/\aH A B w' k0 st (iC L u).1/\dR A B k0 w w'/\FrC k0 w w':=by
 have HD:Hid (aH A B w k0 st L):=h;have hrefl:dR A B k0 w w:=(aI.refl (A:=A) (B:=B) (k0:=k0) (w:=w)).weak;by_cases hu:u<0\/1000<u
 .have e:iC L u=(L,11):=by rw [iC,if_pos hu]
  rw [e];clear h;rcases hu with h1|h2
  .go_enter (Yq.nq Tryz.func45),Tryz.ntmps45;go_wp2_with fail
   go_ret;exact ⟨rfl,HD.out,hrefl,FrC.refl⟩
  .have h1:¬u<0:=by omega
   go_enter (Yq.nq Tryz.func45),Tryz.ntmps45;go_wp2_with fail
   go_ret;exact ⟨rfl,HD.out,hrefl,FrC.refl⟩
 .have e:iC L u=(qt {L with tm:=IntKind.u64.wrap (L.tm+u)} u,0):=by rw [iC,if_neg hu]
  rw [e];have h1:¬u<0:=by omega
  have h2:¬1000<u:=by omega
  have c3:=h.time;have HS:=C0 k0 L.tm u w c3 (h.ls.frozen 3);have HP:Hid (∀m,Calls Yq.prog 75 #[.pointer (some ⟨k0,4,none⟩),.int .i64 u] (w.setCell ⟨k0,3,none⟩ (.int .u64 m)) fun e w'=>e=.returned (.tuple #[])/\aH A B w' k0 st (qt {L with tm:=m} u)/\dR A B k0 w w'/\FrC k0 w w'):=fun m=>by
   obtain ⟨d1,d2⟩:=HD.out.setTime m;refine (E5 _ d1.ls hop u (by omega) hlf).mono ?_;rintro e w' ⟨rfl,p1,p2,p3⟩;exact ⟨rfl,d1.step p2 (fun _ h=>h) p1 rfl,d2.trans p2.weak,(FrC.set 3 _ (by omega)).trans p3⟩
  clear h c3;go_enter (Yq.nq Tryz.func45),Tryz.ntmps45;go_wp2_with (first
   |(go_at_call 74;refine HS.mono ?_;clear HS;rintro e w1 ⟨rfl,rfl⟩)
   |(go_at_call 75;refine (HP.out _).mono ?_;clear HP;rintro e w2 ⟨rfl,p1,p2,p3⟩))
  go_ret;exact ⟨rfl,p1,p2,p3⟩
end
def iD (x:LsA):ItD:=⟨0,⟨#[]⟩,x.left⟩
theorem uO (v:Int)(w:Wz):(Instr.build 41 #[(2,.int .i64 v)]).run Yq.prog w=.ok (.agg #[.int .i64 0,.string ⟨#[]⟩,.int .i64 v]) w:=by kernel_rfl
section
variable {A:Nat->Prop} {B k0:Nat} {L:Lg}
theorem AI (w:Wz)(h:dh A B w k0 L)(hop:L.opened.length<=3):
  Calls Yq.prog 47 #[.pointer (some ⟨k0,4,none⟩)] w fun e w'=>∃sv,e=.returned sv/\w'.ownsRow w.heap.size 41 3 sv (L.opened.map iD).length (ay (L.opened.map iD))/\Below w.heap.size w w':=by
 obtain ⟨v4,c4,zs,z1,z2,z3,z4⟩:=h.opened;obtain ⟨va4,vc4,rfl,-⟩:=aw z2;have hlz:L.opened.length=zs.length:=by rw [z1];simp
 have hlt:=h.lt;obtain ⟨its,hits⟩:∃its:Nat->List ItD,its=fun i=>((zs.map (·.1)).map iD).take i:=⟨_,rfl⟩
 have HI:Hid (its=fun i=>((zs.map (·.1)).map iD).take i):=hits;have hil:∀i,i<=zs.length->(its i).length=i:=fun i hi=>by rw [hits];simp;omega
 have HEND:Hid ((L.opened.map iD)=its zs.length):=by
  show L.opened.map iD=its zs.length;rw [hits,z1];exact (tO (by simp)).symm
 have hzl:zs.length<=3:=by omega
 rw [HEND.out];have HZ:Hid (w.ownsRow B 125 8 (.slice va4 zs.length vc4) zs.length (aS zs)):=z2;obtain ⟨i0,hi0,hz0,hz1,hz2⟩:=info_parts Yq.infoItem;have hbi:=uO;clear h z1 z2 z3 z4 hits;go_enter (Yq.nq Tryz.func47),Tryz.ntmps47;go_wp2_with fail
 go_loopw [3,5,11] (fun s3 _ s11 wr=>∃i:Nat,i<=zs.length/\s11=.int .i64 i/\wr.ownsRow w.heap.size 41 3 s3 i (ay (its i))/\Below w.heap.size w wr) (fun _ _ s11 _=>zs.length-(intOf s11).toNat)
 case atStart=>exact ⟨0,Nat.zero_le _,rfl,by rw [HI.out];exact ⟨rfl,.inl ⟨rfl,rfl⟩⟩,bR _ _⟩
 case round=>
  obtain ⟨i,hi,rfl,hown,hb⟩:=hrel;obtain ⟨so,sc,rfl,-⟩:=aw hown;by_cases hlt2:i<zs.length
  .obtain ⟨g,cap,he⟩:∃g cap,Value.slice va4 zs.length vc4=.slice (some ⟨g,0,none⟩) zs.length cap:=by
    rcases HZ.out.2 with ⟨h1,h2⟩|⟨g,cap,cur,h1,-⟩
    .omega
    .exact ⟨g,cap,h1⟩
   cases he;obtain ⟨q0,q1,q2,q3,q4,q5,q6,q7⟩:=kW HZ.out i hlt2;replace q0:=aj hb q0;replace q1:=aj hb q1;replace q2:=aj hb q2;replace q3:=aj hb q3;replace q4:=aj hb q4;replace q5:=aj hb q5;replace q6:=aj hb q6;replace q7:=aj hb q7;have HS:Hid (its (i+1)=its i++[⟨0,⟨#[]⟩,zs[i].1.left⟩]):=by
    show its (i+1)=its i++[⟨0,⟨#[]⟩,zs[i].1.left⟩];rw [HI.out];simp only;rw [tS (by simpa using hlt2)];simp [iD]
   obtain ⟨O1,hO1⟩:∃O1,O1=Obj.cells #[.int .i64 zs[i].1.num,.pointer zs[i].2,.bool zs[i].1.q.vs,.string zs[i].1.q.p,.string zs[i].1.q.d,.string zs[i].1.q.af,.int .i64 zs[i].1.size,.int .i64 zs[i].1.left] 125:=⟨_,rfl⟩;obtain ⟨O2,hO2⟩:∃O2,O2=Obj.cells #[.int .i64 0,.string ⟨#[]⟩,.int .i64 zs[i].1.left] 41:=⟨_,rfl⟩;have HOW:Hid (((wr.alloc O1).alloc O2).ownsRow w.heap.size 41 3 (.slice so i sc) i (ay (its i))/\Below w.heap.size w wr/\∀k,(Value.slice so i sc).ownBlock=some k->w.heap.size<=k):=⟨(hown.alloc _).alloc _,hb,fun k e=>(hown.lt k e).1⟩;have HN:Hid (∀j u,[Value.int .i64 0,.string ⟨#[]⟩,.int .i64 zs[i].1.left][j]?=some u->((wr.alloc O1).alloc O2).cell? ((⟨wr.heap.size+1,0,none⟩:Ww).add j)=some u):=by
    rw [hO2];have:=xZ (wr.alloc O1) (.int .i64 0) (.string ⟨#[]⟩) (.int .i64 zs[i].1.left) 41
    rwa [World.size_alloc] at this
   have hbs:=hb.size;rw [hO1,hO2] at HOW HN;clear hown hb;go_wp2_with (at_builtin;refine wpList_append_own _ rfl _ _ 34 rfl w.heap.size 41 i0 _ 3 32 (Yq.u Tryz.underlying34) hi0 hz0 hz1 hz2 rfl (by decide) _ _ _ rfl HOW.out.1 ⟨wr.heap.size+1,0,none⟩ 1 1 [.int .i64 0,.string ⟨#[]⟩,.int .i64 zs[i].1.left] ?qa rfl ?qb ?qc ?qd ?qe ?qf ?_)
   case qa=>rfl
   case qb=>exact HN.out
   case qc=>simp [Value.oneCell']
   case qd=>simp only [maxLen];omega
   case qe=>omega
   case qf=>simp;omega
   intro v' w3 ho hg _;obtain ⟨so',sc',rfl,-⟩:=aw ho;have HE:Hid (w3.ownsRow w.heap.size 41 3 (.slice so' (i+1) sc') (i+1) (ay (its i)++[.int .i64 0,.string ⟨#[]⟩,.int .i64 zs[i].1.left])/\Below w.heap.size w w3):=
    ⟨ho,((HOW.out.2.1.alloc HOW.out.2.1.size _).alloc (by have:=HOW.out.2.1.size;simp;omega) _).grown hg (by simp;omega) HOW.out.2.2⟩
   clear ho hg;go_wp2_with fail
   refine ⟨⟨i+1,by omega,by go_num,?_,HE.out.2⟩,by simp [intOf];omega⟩;rw [HS.out,lO];exact HE.out.1
  .have:i=zs.length:=by omega
   subst this;go_wp2_with fail
   go_ret;refine ⟨_,rfl,?_,hb⟩;rw [hil _ (lR _)];exact hown
end
section
variable {A:Nat->Prop} {B k0:Nat} {L:Lg}
theorem AJ (w:Wz)(h:dh A B w k0 L)(tok:ByteArray)(hf:em tok L.told=none):
  Calls Yq.prog 43 #[.pointer (some ⟨k0,4,none⟩),.string tok] w fun e w'=>e=.returned (.tuple #[.agg #[.slice none 0 0,.string ⟨#[]⟩],.int .i64 9])/\bc A B k0 w L [] (.slice none 0 0) w':=by
 obtain ⟨mv,c6,hm⟩:=h.told;have hlt:=h.lt;have hlk:=kT (hm.left (ak.refl.alloc (.cells #[.slice none 0 0,.string ⟨#[]⟩] 88))) tok;rw [hf] at hlk;simp only [Option.getD_none,Option.isSome_none,plV] at hlk;have HL:Hid (dh A B w k0 L):=h;have hbp:=eQ;clear h hm;go_enter (Yq.nq Tryz.func43),Tryz.ntmps43;go_wp2_with fail
 refine bodyPost_ret (v:=.tuple #[.agg #[.slice none 0 0,.string ⟨#[]⟩],.int .i64 9]) (by simp [results,Tryz.results43,go_sem]) rfl ⟨rfl,bc.same HL.out ?_⟩;exact (ak.refl.alloc _).alloc _
theorem AK (w:Wz)(h:dh A B w k0 L)(tok:ByteArray)(n pg:Int)(hop:L.opened.length<=3)(hf:em tok L.told=some (n,pg))(hn:kX n L.opened=none):
  Calls Yq.prog 43 #[.pointer (some ⟨k0,4,none⟩),.string tok] w fun e w'=>e=.returned (.tuple #[.agg #[.slice none 0 0,.string ⟨#[]⟩],.int .i64 10])/\bc A B k0 w L [] (.slice none 0 0) w':=by
 obtain ⟨mv,c6,hm⟩:=h.told;obtain ⟨v4,c4,zs,z1,z2,z3,z4⟩:=h.opened;obtain ⟨va4,vc4,rfl,-⟩:=aw z2;have hlz:L.opened.length=zs.length:=by rw [z1];simp
 have hlt:=h.lt;have hk1:k0<w.heap.size+1:=by omega
 have hlk:=kT (hm.left (ak.refl.alloc (.cells #[.slice none 0 0,.string ⟨#[]⟩] 88))) tok;rw [hf] at hlk;simp only [Option.getD_some,Option.isSome_some,plV] at hlk;obtain ⟨W,hW⟩:∃W,W=(w.alloc (.cells #[.slice none 0 0,.string ⟨#[]⟩] 88)).alloc (.cells #[.int .i64 n,.int .i64 pg] 129):=⟨_,rfl⟩;have hLW:ak w W:=by rw [hW];exact (ak.refl.alloc _).alloc _
 have hIX:=ws B va4 vc4 zs (w.heap.size+1) n W (aX z2 fun g _ hg=>hLW.block g hg) (by omega) (by
  rw [hW];have:=cA (w:=w.alloc (.cells #[.slice none 0 0,.string ⟨#[]⟩] 88)) #[.int .i64 n,.int .i64 pg] 129 (w.heap.size+1) 0 (by simp);rw [this];rfl)
 rw [<-z1,hn] at hIX;simp only [Option.map_none,Option.getD_none] at hIX;have HL:Hid (dh A B w k0 L/\ak w W):=⟨h,hLW⟩;have HF:Hid (∀w1,Below W.heap.size W w1->w1.cell? ⟨w.heap.size,0,none⟩=some (.slice none 0 0)/\w1.cell? ⟨w.heap.size,1,none⟩=some (.string ⟨#[]⟩)/\w1.frozen? ⟨w.heap.size,0,none⟩=false/\w1.frozen? ⟨w.heap.size,1,none⟩=false):=fun w1 hb=>by
  have e:w1.heap[w.heap.size]?=some (.cells #[.slice none 0 0,.string ⟨#[]⟩] 88):=by
   rw [hb.block _ (by rw [hW];simp;omega),hW,bA _ _ _ (by simp)];exact aN _ _
  exact ⟨by simp [World.cell?,e],by simp [World.cell?,e],by simp [World.frozen?,e],by simp [World.frozen?,e]⟩
 have HWW:Hid (W=(w.alloc (.cells #[.slice none 0 0,.string ⟨#[]⟩] 88)).alloc (.cells #[.int .i64 n,.int .i64 pg] 129)):=hW;have hbp:=eQ;have hWs:W.heap.size=w.heap.size+2:=by rw [hW];simp
 clear h hm z1 z2 z3 z4 hLW;subst hW;go_enter (Yq.nq Tryz.func43),Tryz.ntmps43;go_wp2_with (go_at_call 71;refine hIX.mono ?_;clear hIX;rintro e w1 ⟨rfl,hb1⟩;obtain ⟨s0,s1,u0,u1⟩:=HF.out w1 hb1)
 refine bodyPost_ret (v:=.tuple #[.agg #[.slice none 0 0,.string ⟨#[]⟩],.int .i64 10]) (by simp [results,Tryz.results43,go_sem,s0,s1]) rfl ⟨rfl,bc.same HL.out.1 ?_⟩;exact ((HL.out.2.trans (.below hb1)).set (lR _) _ _).set (lR _) _ _
end
theorem ce.set {w:Wz}{b j:Nat}{x:Wq}(h:ce w b):ce (w.setCell ⟨b,j,none⟩ x) b:=by
 obtain ⟨ob,e1,e2⟩:=h;cases ob with
 |cells xs e z=>
  obtain ⟨g1,g2⟩:=eS e1;refine ⟨.cells (xs.setIfInBounds j x) e z,?_,rfl⟩;show (w.heap.modify b _)[b]?=_;rw [eG (by rw [Array.size_modify];exact g1),Array.getElem_modify_self,g2];rfl
 |_=>cases e2
theorem ce.of_block {w w':Wz}{b:Nat}(h:ce w b)(e:w'.heap[b]?=w.heap[b]?):ce w' b:=by
 obtain ⟨o,h1,h2⟩:=h;exact ⟨o,e.trans h1,h2⟩
section
variable {A:Nat->Prop} {B k0:Nat} {L L2:Lg} {w X W7 w8:Wz} {sv:Wq} {pg:List ItD} {r0:Nat}
def iR (A:Nat->Prop)(sv:Wq):Nat->Prop:=fun b=>A b\/sv.ownBlock=some b
theorem nS (h:dh A B X k0 L)(hl:ak X W7)(hrow:W7.ownsRow X.heap.size 41 3 sv pg.length (ay pg)):dh (iR A sv) B W7 k0 L:=
 h.more hl (fun _ h=>.inl h) (fun b hb=>hb.imp id fun e=>(hrow.lt b e).1) (fun b hb=>by
  rcases hb with hb|hb
  .exact lL (h.inn b hb) hl.size
  .exact (hrow.lt b hb).2)
theorem AL (hfx:FrC k0 w X)(hk8:dp k0 W7 w8)(hw:∀b,A b->b<w.heap.size)(hd:aI A B k0 w X)(hl:ak X W7)(hrow:W7.ownsRow X.heap.size 41 3 sv pg.length (ay pg))(h8:dh (iR A sv) B w8 k0 L2)(hd8:aI (iR A sv) B k0 W7 w8)(k4:w8.cell? ⟨k0,4,none⟩=X.cell? ⟨k0,4,none⟩)(hr1:w.heap.size<=r0)(hr2:r0<X.heap.size)(hB:B<=w.heap.size)(hv:∀v g,X.cell? ⟨k0,4,none⟩=some v->v.ownBlock=some g->g≠r0)(hc:ce w8 r0)(y0 y1:Wq):
  bc A B k0 w L2 pg sv ((w8.setCell ⟨r0,0,none⟩ y0).setCell ⟨r0,1,none⟩ y1):=by
 have hlow:=h8.low;have hnA:¬iR A sv r0:=fun ha=>by
  rcases ha with ha|ha
  .have:=hw _ ha;omega
  .have:=(hrow.lt _ ha).1;omega
 have hk:r0≠k0:=by omega
 have h9:=h8.other (j:=0) (x:=y0) hk hnA hc (fun v g e=>hv v g (k4.symm.trans e));have hk9:(w8.setCell ⟨r0,0,none⟩ y0).cell? ⟨k0,4,none⟩=w8.cell? ⟨k0,4,none⟩:=cB (a:=⟨k0,4,none⟩) (bS _ _ _ _ (show k0≠r0 by omega));have h10:=h9.other (j:=1) (x:=y1) hk hnA hc.set (fun v g e=>hv v g (k4.symm.trans (hk9.symm.trans e)));have hlt:k0<X.heap.size:=by have:=hd.size;omega
 have hdw:aI (iR A sv) B k0 W7 ((w8.setCell ⟨r0,0,none⟩ y0).setCell ⟨r0,1,none⟩ y1):=(hd8.trans (aI.other hk hnA (by omega))).trans (aI.other hk hnA (by omega));refine ⟨iR A sv,fun _ h=>.inl h,fun b hb=>?_,h10,(hd.trans (aI.left hlt hl)).trans (hdw.mono fun _ h=>.inl h),?_,?_⟩
 .rcases hb with hb|hb
  .exact .inl hb
  .have:=(hrow.lt b hb).1;have:=hd.size;exact .inr (by omega)
 .exact kV (ep hrow fun g hg=>hdw.tree g (.inr hg) (hrow.lt g hg).2) (fun g hg=>.inr hg)
 .have e7:W7.cell? ⟨k0,4,none⟩=X.cell? ⟨k0,4,none⟩:=cB (a:=⟨k0,4,none⟩) (hl.block k0 hlt);have q:=(hfx.trans (FrC.left hlt hl)).trans (FrC.keepC hk8 (k4.trans e7.symm));exact (q.fresh (by omega) hk).fresh (by omega) hk
theorem C3 (hfx:FrC k0 w X)(h:dh A B X k0 L)(hw:∀b,A b->b<w.heap.size)(hd:aI A B k0 w X)(hl:ak X W7)(hrow:W7.ownsRow X.heap.size 41 3 sv pg.length (ay pg))(hr1:w.heap.size<=r0)(hr2:r0<X.heap.size)(hB:B<=w.heap.size)(hv:∀v g,X.cell? ⟨k0,4,none⟩=some v->v.ownBlock=some g->g≠r0)(hc:ce X r0)(y0 y1:Wq):
  bc A B k0 w L pg sv ((W7.setCell ⟨r0,0,none⟩ y0).setCell ⟨r0,1,none⟩ y1):=by
 have h7:=nS h hl hrow;exact AL hfx (dp.refl _ _) hw hd hl hrow h7 aI.refl (cB (a:=⟨k0,4,none⟩) (hl.block k0 h.lt)) hr1 hr2 hB hv (hc.of_block (hl.block r0 hr2)) y0 y1
theorem C4 (hfx:FrC k0 w X)(h:dh A B X k0 L)(hw:∀b,A b->b<w.heap.size)(hd:aI A B k0 w X)(hl:ak X W7)(hrow:W7.ownsRow X.heap.size 41 3 sv pg.length (ay pg))(hr1:w.heap.size<=r0)(hr2:r0<X.heap.size)(hB:B<=w.heap.size)(hv:∀v g,X.cell? ⟨k0,4,none⟩=some v->v.ownBlock=some g->g≠r0)(hc:ce X r0)(tk:ByteArray)(pl:Int×Int):
  Calls Yq.prog 70 #[.pointer (some ⟨k0,4,none⟩),.string tk,plV pl] W7 fun e w8=>e=.returned (.tuple #[])/\dp k0 W7 w8/\∀y0 y1,bc A B k0 w {L with told:=lX tk pl L.told} pg sv ((w8.setCell ⟨r0,0,none⟩ y0).setCell ⟨r0,1,none⟩ y1):=by
 have h7:=nS h hl hrow;have hlow:=h.low;have:=hd.size;have:=hl.size;refine (AF W7 h7 (by omega) tk pl).mono ?_;rintro e w8 ⟨rfl,h8,hd8,hk8,hj8⟩;refine ⟨rfl,hk8,fun y0 y1=>?_⟩;have hc7:=hc.of_block (hl.block r0 hr2);have hc8:ce w8 r0:=by
  obtain ⟨o,e1,e2⟩:=hc7;exact ⟨o,hk8.2.2 r0 o e1 e2 (by omega),e2⟩
 exact AL hfx hk8 hw hd hl hrow h8 hd8 ((hj8 4 (by omega)).trans (cB (a:=⟨k0,4,none⟩) (hl.block k0 h.lt))) hr1 hr2 hB hv hc8 y0 y1
end
theorem bO {P:Program}{ops:Array Oper}{o:Oper}{a:Act}{w:Wz}{K:Act->Wz->Prop}{Q:Exit->Act->Wz->Prop}{E:Prop}
  (hg:o.guard=none) (f:FuncId) (xs:Array Operand) (ts:Array TypeId) (hop:o.op=Op.call {callee:=Callee.value (.func f),args:=xs,argTypes:=ts})
  (args:Array Wq) (hx:xs.map a.eval=args) (henter:(callFunc f args).run P w=.ok (.enter f args) w)
  (R:Wq->Wz->Prop) (S:List PanicEntry->Wz->Prop) (hC:Calls P f args w fun e w'=>(∃v,e=.returned v/\R v w')\/∃ch,e=.panicked ch/\S ch w') (hS:∀ch w',S ch w'->Q (.panic ch) a w') (hK:∀v w',R v w'->K (a.put o.dst v) w'):
  if Region.wanted o (yielded ops a.tmps)=true then Oper.wp P o a w K Q else E:=by
 have hw:Region.wanted o (yielded ops a.tmps)=true:=by simp [Region.wanted,hg]
 rw [if_pos hw];subst hx;unfold Oper.wp;have e:(execOp a.eval o).run P w=.ok (.enter f (xs.map a.eval)) w:=by
  have e1:execOp a.eval o=(do let d <-resolve a.eval {callee:=Callee.value (.func f),args:=xs,argTypes:=ts} o.type;invoke d.target d.args):=by simp only [execOp,hop]
  rw [e1];simpa [resolve,Deferred.ofValue,Act.eval,invoke] using henter
 rw [e,Oper.upon_enter];refine hC.mono ?_;rintro e w' (⟨v,rfl,hr⟩|⟨ch,rfl,hs⟩)
 .exact hK v w' hr
 .exact hS ch w' hs
noncomputable def DI:Code:=bB (bB (bB (bB (bB (bB (bB (aZ Tryz.f43)))))))
def sI (k0 r0 bt bx:Nat)(u:Nat->Wq):Array Wq:=
 #[.pointer (some ⟨k0,4,none⟩),u 1,u 2,u 3,.pointer (some ⟨r0,0,none⟩),u 5,.pointer (some ⟨bt,0,none⟩),u 7,u 8,.pointer (some ⟨bx,0,none⟩),u 10,u 11,u 12,u 13,u 14,u 15,u 16,u 17,u 18,u 19,u 20,u 21,u 22,u 23,u 24,u 25,u 26,u 27,u 28,u 29,u 30,u 31,u 32,u 33,u 34,u 35,u 36,u 37,u 38,u 39,u 40,u 41,u 42,u 43,u 44,u 45,u 46,u 47,u 48,u 49,u 50,u 51,u 52,u 53,u 54,u 55,u 56,u 57,u 58,u 59,u 60,u 61]
section
variable {A:Nat->Prop} {B k0:Nat} {L:Lg}
theorem AM (Qok:Qy->Prop){w X W7:Wz}{r0 bt bx:Nat}{u:Nat->Wq}{so:Option Ww}{sn sc:Nat}{tk:ByteArray}{n pg:Int}{pgI:List ItD}(hfx:FrC k0 w X)(h:dh A B X k0 L)(hw:∀b,A b->b<w.heap.size)(hd:aI A B k0 w X)(hl:ak X W7)(hrow:W7.ownsRow X.heap.size 41 3 (.slice so sn sc) pgI.length (ay pgI))(hr1:w.heap.size<=r0)(hr2:r0<X.heap.size)(hB:B<=w.heap.size)(hv:∀v g,X.cell? ⟨k0,4,none⟩=some v->v.ownBlock=some g->g≠r0)
  (b0:X.heap[r0]?=some (.cells #[.slice none 0 0,.string ⟨#[]⟩] 88)) (b1:X.heap[bt]?=some (.cells #[.int .i64 n,.int .i64 pg] 129)) (c0:W7.cell? ⟨bx,0,none⟩=some (.slice so sn sc)) (c1:W7.cell? ⟨bx,1,none⟩=some (.string tk)) (hbx:X.heap.size<=bx) (_hbt:w.heap.size<=bt) (hpg:0<=pg/\pg<2199023255552):
  DI.wp Yq.prog (bodyPost Yq.prog Tryz.f43 fun e w'=>(∃sv,e=.returned (.tuple #[.agg #[sv,.string tk],.int .i64 0])/\bc A B k0 w ⟨L.opened,L.begun,if tk=⟨#[]⟩ then L.told else lX tk (n,pg+1) L.told,L.tm⟩ pgI sv w')\/Stop Qok e w') ⟨sI k0 r0 bt bx u,[]⟩ W7:=by
 have hlow:=h.low;have hlt:=h.lt;have hsX:=hd.size;have hs7:=hl.size;have hk:k0≠r0:=by omega
 have hcb:ce X r0:=⟨_,b0,rfl⟩;have e0:W7.heap[r0]?=some (.cells #[.slice none 0 0,.string ⟨#[]⟩] 88):=(hl.block r0 hr2).trans b0;have hbt2:bt<X.heap.size:=(eS b1).1;have e1:W7.heap[bt]?=some (.cells #[.int .i64 n,.int .i64 pg] 129):=(hl.block bt hbt2).trans b1;have s0:W7.cell? ⟨r0,0,none⟩=some (.slice none 0 0):=by simp [World.cell?,e0]
 have s1:W7.cell? ⟨r0,1,none⟩=some (.string ⟨#[]⟩):=by simp [World.cell?,e0]
 have y0:W7.frozen? ⟨r0,0,none⟩=false:=by simp [World.frozen?,e0]
 have y1:W7.frozen? ⟨r0,1,none⟩=false:=by simp [World.frozen?,e0]
 have p0:W7.cell? ⟨bt,0,none⟩=some (.int .i64 n):=by simp [World.cell?,e1]
 have p1:W7.cell? ⟨bt,1,none⟩=some (.int .i64 pg):=by simp [World.cell?,e1]
 have HL:=C3 hfx h hw hd hl hrow hr1 hr2 hB hv hcb;have HK:=C4 hfx h hw hd hl hrow hr1 hr2 hB hv hcb tk (n,pg+1);have hwr:wrap64 (pg+1)=pg+1:=by unfold wrap64;omega
 have hbq:=nR;have HHL:Hid (∀y0 y1,bc A B k0 w L pgI (.slice so sn sc) ((W7.setCell ⟨r0,0,none⟩ y0).setCell ⟨r0,1,none⟩ y1)):=HL;unfold plV at HK;generalize hQ:bodyPost Yq.prog Tryz.f43 _=Q;have HQ:Hid (bodyPost Yq.prog Tryz.f43 _=Q):=hQ;clear hQ HL h hw hd hl hrow hfx hv b0 b1 e0 e1 hcb;unfold sI;dsimp only [DI,aZ,Tryz.f43,fI,bB,Option.getD];by_cases htk:tk=⟨#[]⟩
 .subst htk;go_wp2_with fail
  rw [<-HQ.out];refine bodyPost_ret (v:=.tuple #[.agg #[.slice so sn sc,.string ⟨#[]⟩],.int .i64 0]) (by simp [results,Tryz.results43,go_sem,s0,s1]) rfl (.inl ⟨_,rfl,?_⟩);simp only [if_true];exact HHL.out _ _
 .have hne':¬tk.toList=[]:=fun hx=>by
   have:(tk==(⟨#[]⟩:ByteArray))=true:=by rw [beq_toListBytes];simpa using hx
   exact htk ((MapKept.bytes_beq _ _).1 this)
  have hne:(tk.toList == [])=false:=by simpa using hne'
  have hbk:bx≠k0:=by omega
  go_wp2_with (go_at_call 70;refine HK.mono ?_;clear HK;rintro e w8 ⟨rfl,hk8,hfin⟩;have c0':=hk8.cell c0 hbk;have c1':=hk8.cell c1 hbk;have s0':=hk8.cell s0 hk.symm;have s1':=hk8.cell s1 hk.symm;have y0':=(hk8.frozen s0 hk.symm).trans y0;have y1':=(hk8.frozen s1 hk.symm).trans y1)
  rw [<-HQ.out];refine bodyPost_ret (v:=.tuple #[.agg #[.slice so sn sc,.string tk],.int .i64 0]) (by simp [results,Tryz.results43,go_sem,s0',s1']) rfl (.inl ⟨_,rfl,?_⟩);rw [if_neg htk];exact hfin _ _
end
section
variable {A:Nat->Prop} {B k0:Nat} {L:Lg}
theorem AN (Qok:Qy->Prop)(hQ:∀q,Qok q->gH q/\gI q)(w:Wz)(h:dh A B w k0 L)(hB:B<=w.heap.size)(tok:ByteArray)(n pg:Int)(i:Nat)(x:LsA)(hop:L.opened.length<=3)(hf:em tok L.told=some (n,pg))(hn:kX n L.opened=some i)(hx:L.opened[i]?=some x)(hq:Qok x.q)(hsum:gm (db x.f x.q.p.data.toList)<=1000)(hp:x.q.p.size<=maxLen)(hpg:0<=pg/\pg<2199023255552)(G:Wz->Prop)(hGg:∀w',G w'->cI w')(hG:∀w',aI A B k0 w w'->G w')(hT:jY G n (pg+1)):
  Calls Yq.prog 43 #[.pointer (some ⟨k0,4,none⟩),.string tok] w fun e w'=>
   (∃sv,e=.returned (.tuple #[.agg #[sv,.string (x.tok pg)],.int .i64 0])/\bc A B k0 w ⟨L.opened.set i (x.again 10),L.begun,if x.tok pg=⟨#[]⟩ then L.told else lX (x.tok pg) (n,pg+1) L.told,L.tm⟩ (x.page pg) sv w')\/Stop Qok e w':=by
 obtain ⟨mv,c6,hm⟩:=h.told;obtain ⟨v4,c4,zs,z1,z2,z3,z4⟩:=h.opened;have hlz:L.opened.length=zs.length:=by rw [z1];simp
 have hxn:x.num=n:=by
  obtain ⟨h1,h2,-⟩:=List.findIdx?_eq_some_iff_getElem.1 hn;rw [eL h1] at hx;cases hx;simpa using h2
 have hi:i<zs.length:=by rw [<-hlz];exact (sL hx).1
 have hzi:zs[i].1=x:=by
  rw [z1,List.getElem?_map,eL hi] at hx;simpa using hx
 obtain ⟨g,cap,hv4⟩:∃g cap,v4=.slice (some ⟨g,0,none⟩) zs.length cap:=by
  rcases z2.2 with ⟨h1,h2⟩|⟨g,cap,cur,h1,-⟩
  .omega
  .exact ⟨g,cap,h1⟩
 subst hv4;have z3':¬A g:=z3 g rfl;have hgw:=(z2.lt g rfl);have hlt:=h.lt;have hlow:=h.low;have hk1:k0<w.heap.size+1:=by omega
 have hlk:=kT (hm.left (ak.refl.alloc (.cells #[.slice none 0 0,.string ⟨#[]⟩] 88))) tok;rw [hf] at hlk;simp only [Option.getD_some,Option.isSome_some,plV] at hlk;obtain ⟨W,hW⟩:∃W,W=(w.alloc (.cells #[.slice none 0 0,.string ⟨#[]⟩] 88)).alloc (.cells #[.int .i64 n,.int .i64 pg] 129):=⟨_,rfl⟩;have hLW:ak w W:=by rw [hW];exact (ak.refl.alloc _).alloc _
 have hWs:W.heap.size=w.heap.size+2:=by rw [hW];simp
 have rW0:W.heap[w.heap.size]?=some (.cells #[.slice none 0 0,.string ⟨#[]⟩] 88):=by
  rw [hW,bA _ _ _ (by simp)];exact aN _ _
 have rW1:W.heap[w.heap.size+1]?=some (.cells #[.int .i64 n,.int .i64 pg] 129):=by
  rw [hW];have:=aN (w.alloc (.cells #[.slice none 0 0,.string ⟨#[]⟩] 88)) (.cells #[.int .i64 n,.int .i64 pg] 129)
  rwa [World.size_alloc] at this
 have hIX:=ws B (some ⟨g,0,none⟩) cap zs (w.heap.size+1) n W (aX z2 fun g _ hg=>hLW.block g hg) (by omega) (by simp [World.cell?,rW1]);rw [<-z1,hn] at hIX;simp only [Option.map_some,Option.getD_some] at hIX;obtain ⟨tk,htk⟩:∃tk,tk=x.tok pg:=⟨_,rfl⟩;obtain ⟨pgI,hpgI⟩:∃pgI,pgI=x.page pg:=⟨_,rfl⟩;have HA:Hid (∀w1,Below W.heap.size W w1->(w1.cell? ⟨k0,4,none⟩=some (.slice (some ⟨g,0,none⟩) zs.length cap)/\w1.frozen? ⟨g,i * 8+7,none⟩=false/\w1.cell? ⟨g,i * 8+7,none⟩=some (.int .i64 x.left)) /\
   (∀X,X=w1.setCell ⟨g,i * 8+7,none⟩ (.int .i64 10)->dh A B X k0 {L with opened:=L.opened.set i (x.again 10)}/\aI A B k0 w X/\ai A 41 X zs[i].2 x.f/\(X.cell? ⟨k0,4,none⟩=some (.slice (some ⟨g,0,none⟩) zs.length cap)/\k0<X.heap.size/\g<X.heap.size/\w.heap.size+2<=X.heap.size) /\
    (X.cell? ⟨g,i * 8,none⟩=some (.int .i64 n)/\X.cell? ⟨g,i * 8+1,none⟩=some (.pointer zs[i].2)/\X.cell? ⟨g,i * 8+2,none⟩=some (.bool x.q.vs)/\X.cell? ⟨g,i * 8+3,none⟩=some (.string x.q.p)/\X.cell? ⟨g,i * 8+4,none⟩=some (.string x.q.d)/\X.cell? ⟨g,i * 8+5,none⟩=some (.string x.q.af)/\X.cell? ⟨g,i * 8+6,none⟩=some (.int .i64 x.size)/\X.cell? ⟨g,i * 8+7,none⟩=some (.int .i64 10)) /\
    X.heap[w.heap.size]?=some (.cells #[.slice none 0 0,.string ⟨#[]⟩] 88)/\X.heap[w.heap.size+1]?=some (.cells #[.int .i64 n,.int .i64 pg] 129)/\FrC k0 w X)):=fun w1 hb1=>by
  have hl1:ak w w1:=hLW.trans (.below hb1);have z2w:w1.ownsRow B 125 8 (.slice (some ⟨g,0,none⟩) zs.length cap) zs.length (aS zs):=aX z2 fun g _ hg=>hl1.block g hg
  have q7:=(kW z2w i hi).2.2.2.2.2.2.2;rw [hzi] at q7;have hfz:w1.frozen? ⟨g,i * 8+7,none⟩=false:=by
   rcases z2w.2 with ⟨h1,-⟩|⟨g',cap',cur,h1,-,hr,-⟩
   .cases h1
   .cases h1;simp [World.frozen?,hr]
  refine ⟨⟨hl1.cell c4,hfz,q7⟩,fun X hX=>?_⟩;obtain ⟨s1,s2,s3,s4⟩:=(h.left hl1).setLeft (hl1.cell c4) z1 z2w z3' (fun z hz=>ai.keep (fun b hb hb2=>⟨hb,hl1.block b hb2⟩) 41 _ _ (z4 z hz)) i hi 10;rw [hzi] at s1 s3 s4;rw [<-hX] at s1 s2 s3 s4;have hset:(zs.set i (x.again 10,zs[i].2))[i]?=some (x.again 10,zs[i].2):=by simp [hi]
  have hi2:i<(zs.set i (x.again 10,zs[i].2)).length:=by simpa using hi
  have s3':X.ownsRow B 125 8 (.slice (some ⟨g,0,none⟩) (zs.set i (x.again 10,zs[i].2)).length cap) (zs.set i (x.again 10,zs[i].2)).length (aS (zs.set i (x.again 10,zs[i].2))):=by simpa using s3
  have hc:=kW s3' i hi2;have e1:(zs.set i (x.again 10,zs[i].2))[i]=(x.again 10,zs[i].2):=by simp
  rw [e1] at hc;have hsz:=hl1.size;have hXs:X.heap.size=w1.heap.size:=by rw [hX];simp
  have hot:∀b,b≠g->X.heap[b]?=w1.heap[b]?:=fun b hb=>by rw [hX];exact bS _ _ _ _ hb
  have hW1:=hb1.size;refine ⟨s1,(aI.left hlt hl1).trans s2,s4 (x.again 10,zs[i].2) (List.mem_iff_getElem?.2 ⟨i,hset⟩),⟨(cB (a:=⟨k0,4,none⟩) (hot k0 (by omega))).trans (hl1.cell c4),by omega,by omega,by omega⟩,⟨by rw [<-hxn];exact hc.1,hc.2.1,hc.2.2.1,hc.2.2.2.1,hc.2.2.2.2.1,hc.2.2.2.2.2.1,hc.2.2.2.2.2.2.1,hc.2.2.2.2.2.2.2⟩,?_,?_,?_⟩
  .rw [hot _ (by omega),hb1.block _ (by omega)];exact rW0
  .rw [hot _ (by omega),hb1.block _ (by omega)];exact rW1
  .rw [hX];exact (FrC.left hlt hl1).trans (FrC.open ⟨_,hl1.cell c4,rfl⟩ (by omega))
 have HP:Hid (∀w1 X,Below W.heap.size W w1->X=w1.setCell ⟨g,i * 8+7,none⟩ (.int .i64 10)->∀V,ak X V->Calls Yq.prog 69 #[.agg #[.int .i64 n,.pointer zs[i].2,.bool x.q.vs,.string x.q.p,.string x.q.d,.string x.q.af,.int .i64 x.size,.int .i64 10],.int .i64 pg] V fun e w'=>(∃v,e=.returned v/\(∃so sn sc,v=.agg #[.slice so sn sc,.string tk]/\w'.ownsRow V.heap.size 41 3 (.slice so sn sc) pgI.length (ay pgI)/\ak V w'))\/∃ch,e=.panicked ch/\Stop Qok (.panicked ch) w'):=fun w1 X hb1 hX V hV=>by
  obtain ⟨-,hXX⟩:=HA.out w1 hb1;obtain ⟨s1,s2,s3,s4,-⟩:=hXX X hX;have hpre:F7 Qok ((x.again 10).lst zs[i].2) x.f V:=⟨.of (ai.keep (A':=fun _=>True) (fun b _ hlt=>⟨trivial,hV.block b hlt⟩) 41 _ _ s3),hq,hsum,hp,hGg _ (hG _ (s2.trans (aI.left s4.2.1 hV)))⟩;have hwr:IntKind.i64.wrap (pg+1)=pg+1:=by rw [kN];unfold wrap64;omega
  have HP0:=uF Qok hQ ((x.again 10).lst zs[i].2) pg x.f V hpre G (fun w' hl=>hG w' ((s2.trans (aI.left s4.2.1 hV)).trans (aI.left (lL s4.2.1 hV.size) hl))) (fun _=>by
   rw [hwr];show jY G x.num (pg+1);rw [hxn];exact hT)
  rw [show lV ((x.again 10).lst zs[i].2)=.agg #[.int .i64 n,.pointer zs[i].2,.bool x.q.vs,.string x.q.p,.string x.q.d,.string x.q.af,.int .i64 x.size,.int .i64 10] by rw [<-hxn];rfl] at HP0;refine HP0.mono ?_;rintro e w' (⟨sv,rfl,h3,h4⟩|hs)
  .left
   rw [gK (l:=(x.again 10).lst zs[i].2) (l':=x.lst none) rfl] at h3;obtain ⟨so,sn,rfl,-⟩:=aw h3;rw [htk,hpgI];exact ⟨_,rfl,so,_,sn,rfl,h3,h4⟩
  .obtain ⟨a,b,r,rfl,hst⟩:=hs;exact .inr ⟨_,rfl,a,b,r,rfl,hst⟩
 have HEN:Hid (∀ (args:Array Wq) (wx:Wz),(callFunc 69 args).run Yq.prog wx=.ok (.enter 69 args) wx):=fun args wx=>by go_simp
 have HW:Hid (∀b,A b->b<w.heap.size):=h.inn;have hiI:¬((i:Int)<0):=by omega
 have hbp:=eQ;rw [<-htk,<-hpgI];clear htk hpgI;clear h hm z1 z2 z3 z4 hLW rW0 rW1 hq hsum hp hG hGg hT hQ hx hn hf;subst hW;go_enter (Yq.nq Tryz.func43),Tryz.ntmps43
 go_upto_region 8 with (go_at_call 71;refine hIX.mono ?_;clear hIX;rintro e w1 ⟨rfl,hb1⟩;obtain ⟨⟨m4,f7,q7⟩,-⟩:=HA.out w1 hb1)
 obtain ⟨X,hX⟩:∃X,X=w1.setCell ⟨g,i * 8+7,none⟩ (.int .i64 10):=⟨_,rfl⟩;rw [<-hX];obtain ⟨-,hXX⟩:=HA.out w1 hb1;obtain ⟨s1,s2,s3,⟨x4,xk,xg,xs⟩,⟨q0,q1,q2,q3,q4,q5,q6,q8⟩,b0,b1,hfx⟩:=hXX X hX;have p0:X.cell? ⟨w.heap.size+1,0,none⟩=some (.int .i64 n):=by simp [World.cell?,b1]
 have p1:X.cell? ⟨w.heap.size+1,1,none⟩=some (.int .i64 pg):=by simp [World.cell?,b1]
 have xw:w.heap.size+1<X.heap.size:=by omega
 have HS:Hid (dh A B X k0 {L with opened:=L.opened.set i (x.again 10)}/\aI A B k0 w X/\X.heap[w.heap.size]?=some (.cells #[.slice none 0 0,.string ⟨#[]⟩] 88)/\X.heap[w.heap.size+1]?=some (.cells #[.int .i64 n,.int .i64 pg] 129)/\X=w1.setCell ⟨g,i * 8+7,none⟩ (.int .i64 10)):=⟨s1,s2,b0,b1,hX⟩;have HFX:Hid (FrC k0 w X):=hfx;have HV:Hid (∀w2,ak (X.alloc (.cells #[.slice none 0 0,.string ⟨#[]⟩] 88)).drew w2->w2.cell? ⟨X.heap.size,0,none⟩=some (.slice none 0 0)/\w2.cell? ⟨X.heap.size,1,none⟩=some (.string ⟨#[]⟩)/\w2.frozen? ⟨X.heap.size,0,none⟩=false/\w2.frozen? ⟨X.heap.size,1,none⟩=false):=fun w2 hl=>by
  have e:w2.heap[X.heap.size]?=some (.cells #[.slice none 0 0,.string ⟨#[]⟩] 88):=(hl.block _ (by simp)).trans (aN X _);exact ⟨by simp [World.cell?,e],by simp [World.cell?,e],by simp [World.frozen?,e],by simp [World.frozen?,e]⟩
 clear hXX s1 s2 s3 b0 b1 hX hfx;have HVC:Hid (∀v g',X.cell? ⟨k0,4,none⟩=some v->v.ownBlock=some g'->g'≠w.heap.size):=fun v g' hv hg'=>by
  rw [x4] at hv;cases hv;cases hg';show g≠w.heap.size;omega
 rename_i K1 hK1;have HKK:Hid (∀ (a:Act) (W7:Wz) (bx:Nat) (so:Option Ww) (sn sc:Nat),a=⟨sI k0 w.heap.size (w.heap.size+1) bx (fun i=>a.tmps.getD i undef),[]⟩->ak X W7->W7.ownsRow X.heap.size 41 3 (.slice so sn sc) pgI.length (ay pgI)->W7.cell? ⟨bx,0,none⟩=some (.slice so sn sc)->W7.cell? ⟨bx,1,none⟩=some (.string tk)->X.heap.size<=bx->K1 a W7):=fun a W7 bx so sn sc ha hl hrow c0 c1 hbx=>by
  refine hK1 a W7 ?_;rw [ha];have:=AM (L:={L with opened:=L.opened.set i (x.again 10)}) Qok (u:=fun i=>a.tmps.getD i undef) HFX.out HS.out.1 HW.out HS.out.2.1 hl hrow (lR _) (by omega) hB HVC.out HS.out.2.2.1 HS.out.2.2.2.1 c0 c1 hbx (by omega) hpg;exact this
 have HFA:Hid (∀w2 so sn sc,ak X.drew w2->w2.ownsRow X.drew.heap.size 41 3 (.slice so sn sc) pgI.length (ay pgI)->∀a,a=⟨sI k0 w.heap.size (w.heap.size+1) w2.heap.size (fun i=>a.tmps.getD i undef),[]⟩->K1 a (w2.alloc (.cells #[.slice so sn sc,.string tk] 88))):=fun w2 so sn sc hl2 hrow a ha=>by
  have hlX:ak X w2:=(ak.refl.drew).trans hl2;refine HKK.out a _ w2.heap.size so sn sc ha (hlX.alloc _) (aX hrow fun g _ hg=>bA _ _ _ hg) ?_ ?_ hlX.size
  .rw [cA (w:=w2) _ _ w2.heap.size 0 rfl];rfl
  .rw [cA (w:=w2) _ _ w2.heap.size 1 rfl];rfl
 have HFB:Hid (∀w2 so sn sc,ak (X.alloc (.cells #[.slice none 0 0,.string ⟨#[]⟩] 88)).drew w2->w2.ownsRow (X.alloc (.cells #[.slice none 0 0,.string ⟨#[]⟩] 88)).drew.heap.size 41 3 (.slice so sn sc) pgI.length (ay pgI)->∀a,a=⟨sI k0 w.heap.size (w.heap.size+1) X.heap.size (fun i=>a.tmps.getD i undef),[]⟩->K1 a ((w2.setCell ⟨X.heap.size,0,none⟩ (.slice so sn sc)).setCell ⟨X.heap.size,1,none⟩ (.string tk))):=fun w2 so sn sc hl2 hrow a ha=>by
  have hlX:ak X w2:=((ak.refl.alloc _).drew).trans hl2;obtain ⟨v0,v1,o0,o1⟩:=HV.out w2 hl2;have hbs:(X.alloc (.cells #[.slice none 0 0,.string ⟨#[]⟩] 88)).drew.heap.size=X.heap.size+1:=by simp
  refine HKK.out a _ X.heap.size so sn sc ha ((hlX.set (lR _) _ _).set (lR _) _ _) (jS (aX hrow fun g h1 hg=>?_) (by omega)) ?_ ?_ (lR _)
  .rw [bS _ _ _ _ (show g≠X.heap.size by omega),bS _ _ _ _ (show g≠X.heap.size by omega)]
  .rw [cO _ _ _ _ (aV (by omega))];exact cS _ _ _ (by rw [v0];rfl)
  .exact cS _ _ _ (by rw [cO _ _ _ _ (aV (by omega)),v1];rfl)
 clear hK1
 go_region_law (first
  |(refine bO rfl 69 #[.tmp 44,.tmp 46] #[125,3] rfl #[.agg #[.int .i64 n,.pointer zs[i].2,.bool x.q.vs,.string x.q.p,.string x.q.d,.string x.q.af,.int .i64 x.size,.int .i64 10],.int .i64 pg] (by simp [Act.eval]) (HEN.out _ _) _ (fun ch w'=>Stop Qok (.panicked ch) w') (HP.out w1 X hb1 HS.out.2.2.2.2 X.drew ak.refl.drew) (fun ch w' hs=>⟨rfl,Or.inr hs⟩) ?_;rintro v w2 ⟨so,sn,sc,rfl,hrow,hl2⟩;have HE:Hid (_/\_):=And.intro hrow hl2;clear hrow hl2)
  |(refine bO rfl 69 #[.tmp 44,.tmp 46] #[125,3] rfl #[.agg #[.int .i64 n,.pointer zs[i].2,.bool x.q.vs,.string x.q.p,.string x.q.d,.string x.q.af,.int .i64 x.size,.int .i64 10],.int .i64 pg] (by simp [Act.eval]) (HEN.out _ _) _ (fun ch w'=>Stop Qok (.panicked ch) w') (HP.out w1 X hb1 HS.out.2.2.2.2 (X.alloc (.cells #[.slice none 0 0,.string ⟨#[]⟩] 88)).drew (ak.refl.alloc _).drew) (fun ch w' hs=>⟨rfl,Or.inr hs⟩) ?_;rintro v w2 ⟨so,sn,sc,rfl,hrow,hl2⟩;obtain ⟨v0,v1,o0,o1⟩:=HV.out w2 hl2;have HE:Hid (_/\_):=And.intro hrow hl2;clear hrow hl2))
 all_goals first
  |exact HFA.out w2 so sn sc HE.out.2 HE.out.1 _ rfl
  |exact HFB.out w2 so sn sc HE.out.2 HE.out.1 _ rfl
end
theorem E7 {A:Nat->Prop}{B k0:Nat}{L:Lg}(Qok:Qy->Prop)(hQ:∀q,Qok q->gH q/\gI q)(w:Wz)(h:dh A B w k0 L)(hB:B<=w.heap.size)(tok:ByteArray)(hop:L.opened.length<=3)(hinv:∀x∈L.opened,Qok x.q/\gm (db x.f x.q.p.data.toList)<=1000/\x.q.p.size<=maxLen)(hpg:∀n pg,em tok L.told=some (n,pg)->0<=pg/\pg<2199023255552)(G:Wz->Prop)(hGg:∀w',G w'->cI w')(hG:∀w',aI A B k0 w w'->G w')(hT:∀n pg,em tok L.told=some (n,pg)->(kX n L.opened).isSome=true->jY G n (pg+1)):
  Calls Yq.prog 43 #[.pointer (some ⟨k0,4,none⟩),.string tok] w fun e w'=>
   (∃sv,e=.returned (.tuple #[.agg #[sv,.string (fM L tok).2.2.1],.int .i64 (fM L tok).2.2.2])/\bc A B k0 w (fM L tok).1 (fM L tok).2.1 sv w')\/Stop Qok e w':=by
 cases hf:em tok L.told with
 |none=>
  have e:fM L tok=(L,[],⟨#[]⟩,9):=by simp [fM,hf]
  rw [e];exact (AJ w h tok hf).mono fun e w' h=>.inl ⟨_,h.1,h.2⟩
 |some x=>
  obtain ⟨n,pg⟩:=x;cases hn:kX n L.opened with
  |none=>
   have e:fM L tok=(L,[],⟨#[]⟩,10):=by simp [fM,hf,hn]
   rw [e];exact (AK w h tok n pg hop hf hn).mono fun e w' h=>.inl ⟨_,h.1,h.2⟩
  |some i=>
   have hi:i<L.opened.length:=(List.findIdx?_eq_some_iff_getElem.1 hn).1;have hx:L.opened[i]?=some L.opened[i]:=eL hi;have e:fM L tok=(⟨L.opened.set i (L.opened[i].again 10),L.begun,if L.opened[i].tok pg=⟨#[]⟩ then L.told else lX (L.opened[i].tok pg) (n,pg+1) L.told,L.tm⟩,L.opened[i].page pg,L.opened[i].tok pg,0):=by simp [fM,hf,hn,hx]
   rw [e];obtain ⟨h1,h2,h3⟩:=hinv L.opened[i] (List.getElem_mem hi);exact AN Qok hQ w h hB tok n pg i L.opened[i] hop hf hn hx h1 h2 h3 (hpg n pg hf) G hGg hG (hT n pg hf (by simp [hn]))
section
variable {A:Nat->Prop} {B k0:Nat} {L:Lg}
theorem nT (Qok:Qy->Prop)(hQ:∀q,Qok q->gH q/\gI q)(w:Wz)(h:dh A B w k0 L)(_hB:B<=w.heap.size)(root:Option Ww)(f:List UInt8->List Ver)(q:Qy)(size:Int)(hN:ai A 41 w root f)(hq:Qok q)(hsum:gm (db f q.p.data.toList)<=1000)(hp:q.p.size<=maxLen)(hbg:0<=L.begun/\L.begun<2199023255552)(hop:L.opened.length<=3)(G:Wz->Prop)(hGg:∀w',G w'->cI w')(hG:∀w',ak w w'->G w')(hT:jY G (L.begun+1) 2)(hold:(size<1\/20<size)\/(jA L f q size).tok 1=⟨#[]⟩\/3<=L.opened.length):
  Calls Yq.prog 40 #[.pointer (some ⟨k0,4,none⟩),sV root,qV q.vs q.p q.d q.af,.int .i64 size] w fun e w'=>
   (∃sv,e=.returned (.tuple #[.agg #[sv,.string (gu L f q size).2.2.1],.int .i64 (gu L f q size).2.2.2])/\bc A B k0 w (gu L f q size).1 (gu L f q size).2.1 sv w')\/Stop Qok e w':=by
 have c5:=h.begun;obtain ⟨v4,c4,zs,z1,z2,z3,z4⟩:=h.opened;obtain ⟨va4,vc4,rfl,-⟩:=aw z2;have hlz:L.opened.length=zs.length:=by rw [z1];simp
 have hlt:=h.lt;have HL:Hid (dh A B w k0 L):=h;obtain ⟨vs,p,d,af⟩:=q;unfold sV qV;by_cases hsz:size<1\/20<size
 .have hR:gu L f ⟨vs,p,d,af⟩ size=(L,[],⟨#[]⟩,7):=by rw [gu,if_pos hsz]
  rw [hR];have hbp:=eQ;clear hN hq hsum hp hbg hop hT hG hGg h hQ z1 z2 z3 z4 c4 c5;rcases hsz with h1|h2
  .go_enter (Yq.nq Tryz.func40),Tryz.ntmps40;go_wp2_with fail
   refine bodyPost_ret (v:=.tuple #[.agg #[.slice none 0 0,.string ⟨#[]⟩],.int .i64 7]) (by simp [results,Tryz.results40,go_sem]) rfl (.inl ⟨_,rfl,bc.same HL.out (((ak.refl.alloc _).alloc _).alloc _)⟩)
  .have h1:¬size<1:=by omega
   go_enter (Yq.nq Tryz.func40),Tryz.ntmps40;go_wp2_with fail
   refine bodyPost_ret (v:=.tuple #[.agg #[.slice none 0 0,.string ⟨#[]⟩],.int .i64 7]) (by simp [results,Tryz.results40,go_sem]) rfl (.inl ⟨_,rfl,bc.same HL.out (((ak.refl.alloc _).alloc _).alloc _)⟩)
 .have h1:¬size<1:=by omega
  have h2:¬20<size:=by omega
  have hbl:=sF;have hbp:=eQ;have hwb:wrap64 (L.begun+1)=L.begun+1:=by unfold wrap64;omega
  have hk1:k0<w.heap.size+1:=by omega
  have hk2:k0<w.heap.size+1+1:=by omega
  have hk3:k0<w.heap.size+1+1+1:=by omega
  obtain ⟨V,hV⟩:∃V,V=((((w.alloc (.cells #[.pointer root] 56)).alloc (.cells #[.bool vs,.string p,.string d,.string af] 93)).alloc (.cells #[.slice none 0 0,.string ⟨#[]⟩] 88)).alloc (.cells #[.int .i64 (L.begun+1),.pointer root,.bool vs,.string p,.string d,.string af,.int .i64 size,.int .i64 10] 125)).drew:=⟨_,rfl⟩;have hLV:ak w V:=by rw [hV];exact ((((ak.refl.alloc _).alloc _).alloc _).alloc _).drew
  have hVs:V.heap.size=w.heap.size+4:=by rw [hV];simp
  have hpre:F7 Qok ((jA L f ⟨vs,p,d,af⟩ size).lst root) f V:=⟨.of (ai.keep (A':=fun _=>True) (fun b _ hlt=>⟨trivial,hLV.block b hlt⟩) 41 root f hN),hq,hsum,hp,hGg _ (hG _ hLV)⟩;have HP0:=uF Qok hQ ((jA L f ⟨vs,p,d,af⟩ size).lst root) 1 f V hpre G (fun w' hl=>hG w' (hLV.trans hl)) (fun _=>hT);obtain ⟨tk,htk⟩:∃tk,tk=(jA L f ⟨vs,p,d,af⟩ size).tok 1:=⟨_,rfl⟩;obtain ⟨pg,hpg⟩:∃pg,pg=(jA L f ⟨vs,p,d,af⟩ size).page 1:=⟨_,rfl⟩;have HP:Calls Yq.prog 69 #[.agg #[.int .i64 (L.begun+1),.pointer root,.bool vs,.string p,.string d,.string af,.int .i64 size,.int .i64 10],.int .i64 1] V fun e w'=>(∃so sn sc,e=.returned (.agg #[.slice so sn sc,.string tk])/\w'.ownsRow V.heap.size 41 3 (.slice so sn sc) pg.length (ay pg)/\ak V w')\/Stop Qok e w':=by
   refine HP0.mono ?_;rintro e w' (⟨sv,rfl,h3,h4⟩|h)
   .left
    rw [htk,hpg];rw [gK (l:=(jA L f ⟨vs,p,d,af⟩ size).lst root) (l':=(jA L f ⟨vs,p,d,af⟩ size).lst none) rfl] at h3;obtain ⟨so,sn,sc,rfl⟩:∃so sn sc,sv=.slice so sn sc:=by
     rcases h3.2 with ⟨rfl,-⟩|⟨g,cap,cur,rfl,-⟩
     .exact ⟨_,_,_,rfl⟩
     .exact ⟨_,_,_,rfl⟩
    exact ⟨so,sn,sc,rfl,h3,h4⟩
   .exact .inr h
  clear HP0;have HF:Hid (∀w1,ak V w1->((w1.cell? ⟨w.heap.size+1+1+1,0,none⟩=some (.int .i64 (L.begun+1))/\w1.cell? ⟨w.heap.size+1+1+1,1,none⟩=some (.pointer root)/\w1.cell? ⟨w.heap.size+1+1+1,2,none⟩=some (.bool vs)/\w1.cell? ⟨w.heap.size+1+1+1,3,none⟩=some (.string p)/\w1.cell? ⟨w.heap.size+1+1+1,4,none⟩=some (.string d)/\w1.cell? ⟨w.heap.size+1+1+1,5,none⟩=some (.string af)/\w1.cell? ⟨w.heap.size+1+1+1,6,none⟩=some (.int .i64 size)/\w1.cell? ⟨w.heap.size+1+1+1,7,none⟩=some (.int .i64 10)) /\
    (w1.cell? ⟨w.heap.size+1+1,0,none⟩=some (.slice none 0 0)/\w1.cell? ⟨w.heap.size+1+1,1,none⟩=some (.string ⟨#[]⟩)/\w1.frozen? ⟨w.heap.size+1+1,0,none⟩=false/\w1.frozen? ⟨w.heap.size+1+1,1,none⟩=false) /\
    (w1.cell? ⟨k0,4,none⟩=some (.slice va4 zs.length vc4)/\w1.cell? ⟨k0,5,none⟩=some (.int .i64 L.begun)/\w1.frozen? ⟨k0,4,none⟩=false/\w1.frozen? ⟨k0,5,none⟩=false)/\(w.heap.size+1+1<w1.heap.size/\w.heap.size+1+1+1<w1.heap.size/\k0<w1.heap.size))):=fun w1 hl=>by
   have r3:V.heap[w.heap.size+3]?=some (.cells #[.int .i64 (L.begun+1),.pointer root,.bool vs,.string p,.string d,.string af,.int .i64 size,.int .i64 10] 125):=by
    rw [hV];simp only [World.drew,World.alloc,gP,Array.size_push]
    repeat rw [if_neg (by omega)]
    simp
   have r2:V.heap[w.heap.size+2]?=some (.cells #[.slice none 0 0,.string ⟨#[]⟩] 88):=by
    rw [hV];simp only [World.drew,World.alloc,gP,Array.size_push]
    repeat rw [if_neg (by omega)]
    simp
   have e3:=(hl.block _ (by omega)).trans r3;have e2:=(hl.block _ (by omega)).trans r2;have hfz:∀j,w1.frozen? ⟨k0,j,none⟩=false:=fun j=>(fB (a:=⟨k0,j,none⟩) ((hLV.trans hl).block k0 hlt)).trans (HL.out.frozen j)
   have:=hl.size;refine ⟨⟨?_,?_,?_,?_,?_,?_,?_,?_⟩,⟨?_,?_,?_,?_⟩,⟨(hLV.trans hl).cell c4,(hLV.trans hl).cell c5,hfz 4,hfz 5⟩,by omega,by omega,by omega⟩;all_goals simp [World.cell?,World.frozen?,e3,e2]
  have HX:Hid (ak w V/\ai A 41 w root f/\V.heap.size=w.heap.size+4):=⟨hLV,hN,hVs⟩;have HZ:Hid (L.opened=zs.map (·.1)/\w.ownsRow B 125 8 (.slice va4 zs.length vc4) zs.length (aS zs)/\(∀g,(Value.slice va4 zs.length vc4).ownBlock=some g->¬A g)/\∀z∈zs,ai A 41 w z.2 z.1.f):=⟨z1,z2,z3,z4⟩;have HB:Hid (gu L f ⟨vs,p,d,af⟩ size=(if tk=⟨#[]⟩ then (L,pg,⟨#[]⟩,0) else if 3<=L.opened.length then (L,[],⟨#[]⟩,8) else (⟨L.opened++[jA L f ⟨vs,p,d,af⟩ size],L.begun+1,lX tk (L.begun+1,2) L.told,L.tm⟩,pg,tk,0))):=by
   show gu L f ⟨vs,p,d,af⟩ size=_;rw [gu,if_neg hsz,htk,hpg]
  generalize gu L f ⟨vs,p,d,af⟩ size=R at *;have HV:Hid (V=((((w.alloc (.cells #[.pointer root] 56)).alloc (.cells #[.bool vs,.string p,.string d,.string af] 93)).alloc (.cells #[.slice none 0 0,.string ⟨#[]⟩] 88)).alloc (.cells #[.int .i64 (L.begun+1),.pointer root,.bool vs,.string p,.string d,.string af,.int .i64 size,.int .i64 10] 125)).drew):=hV;have HTK:Hid (tk=(jA L f ⟨vs,p,d,af⟩ size).tok 1):=htk;clear hV hLV hVs hpre htk hpg hN z1 z2 z3 z4 hG hGg hT hq hsum hp h hQ;by_cases htk:tk=⟨#[]⟩
  .subst htk;have hR:R=(L,pg,⟨#[]⟩,0):=by rw [HB.out,if_pos rfl]
   subst hR;go_enter (Yq.nq Tryz.func40),Tryz.ntmps40;go_wp2_with fail
   go_region
   rw [<-HV.out];obtain ⟨⟨a0,a1,a2,a3,a4,a5,a6,a7⟩,-⟩:=HF.out V ak.refl;go_wp2_with (go_at_call 69;refine HP.mono ?_;clear HP;rintro e w1 (⟨so,sn,sc,rfl,hrow,hl1⟩|⟨x,y,r,rfl,hst⟩);rotate_left;exact ⟨rfl,Or.inr ⟨x,y,r,rfl,hst⟩⟩;obtain ⟨⟨q0,q1,q2,q3,q4,q5,q6,q7⟩,⟨s0,s1,z0,z1⟩,⟨m4,m5,n4,n5⟩,y2,y3,yk⟩:=HF.out w1 hl1)
   obtain ⟨hLV,-,hVs⟩:=HX.out;have hot:∀b,b≠w.heap.size+1+1->b<w1.heap.size->(((w1.setCell ⟨w.heap.size+1+1,0,none⟩ (.slice so sn sc)).setCell ⟨w.heap.size+1+1,1,none⟩ (.string ⟨#[]⟩)).alloc (.cells #[.slice so sn sc,.string ⟨#[]⟩] 88)).heap[b]?=w1.heap[b]?:=fun b h1 h2=>by
    rw [bA _ _ _ (by simpa using h2),bS _ _ _ _ h1,bS _ _ _ _ h1]
   have hl2:ak w (((w1.setCell ⟨w.heap.size+1+1,0,none⟩ (.slice so sn sc)).setCell ⟨w.heap.size+1+1,1,none⟩ (.string ⟨#[]⟩)).alloc (.cells #[.slice so sn sc,.string ⟨#[]⟩] 88)):=(((hLV.trans hl1).set (by omega) _ _).set (by omega) _ _).alloc _;refine bodyPost_ret (v:=.tuple #[.agg #[.slice so sn sc,.string ⟨#[]⟩],.int .i64 0]) (by simp [results,Tryz.results40,go_sem,s0,s1,y2]) rfl (.inl ⟨_,rfl,bc.page HL.out hl2 hrow (by omega) fun g h1 h2=>hot g (by omega) h2⟩)
  .have hne':¬tk.toList=[]:=fun hx=>by
    have:(tk==(⟨#[]⟩:ByteArray))=true:=by rw [beq_toListBytes];simpa using hx
    exact htk ((MapKept.bytes_beq _ _).1 this)
   have hne:(tk.toList == [])=false:=by simpa using hne'
   by_cases h3:3<=L.opened.length
   .have hR:R=(L,[],⟨#[]⟩,8):=by rw [HB.out,if_neg htk,if_pos h3]
    subst hR;have h3i:(3:Int)<=(zs.length:Int):=by omega
    go_enter (Yq.nq Tryz.func40),Tryz.ntmps40;go_wp2_with fail
    go_region
    rw [<-HV.out];obtain ⟨⟨a0,a1,a2,a3,a4,a5,a6,a7⟩,-⟩:=HF.out V ak.refl;go_wp2_with (go_at_call 69;refine HP.mono ?_;clear HP;rintro e w1 (⟨so,sn,sc,rfl,hrow,hl1⟩|⟨x,y,r,rfl,hst⟩);rotate_left;exact ⟨rfl,Or.inr ⟨x,y,r,rfl,hst⟩⟩;obtain ⟨⟨q0,q1,q2,q3,q4,q5,q6,q7⟩,⟨s0,s1,z0,z1⟩,⟨m4,m5,n4,n5⟩,y2,y3,yk⟩:=HF.out w1 hl1)
    obtain ⟨hLV,-,hVs⟩:=HX.out;have hl2:ak w (((w1.setCell ⟨w.heap.size+1+1,0,none⟩ (.slice none 0 0)).setCell ⟨w.heap.size+1+1,1,none⟩ (.string ⟨#[]⟩)).alloc (.cells #[.slice so sn sc,.string tk] 88)):=(((hLV.trans hl1).set (by omega) _ _).set (by omega) _ _).alloc _;refine bodyPost_ret (v:=.tuple #[.agg #[.slice none 0 0,.string ⟨#[]⟩],.int .i64 8]) (by simp [results,Tryz.results40,go_sem,s0,s1,y2]) rfl (.inl ⟨_,rfl,bc.same HL.out hl2⟩)
   .rcases hold with h|h|h
    .exact absurd h hsz
    .rw [<-HTK.out] at h;exact absurd h htk
    .exact absurd h h3
end
section
variable {A:Nat->Prop} {B k0:Nat} {L:Lg}
theorem AO (Qok:Qy->Prop)(hQ:∀q,Qok q->gH q/\gI q)(w:Wz)(h:dh A B w k0 L)(hB:B<=w.heap.size)(root:Option Ww)(f:List UInt8->List Ver)(q:Qy)(size:Int)(hN:ai A 41 w root f)(hq:Qok q)(hsum:gm (db f q.p.data.toList)<=1000)(hp:q.p.size<=maxLen)(hbg:0<=L.begun/\L.begun<2199023255552)(hop:L.opened.length<=3)(G:Wz->Prop)(hGg:∀w',G w'->cI w')(hG:∀w',ak w w'->G w')(hT:jY G (L.begun+1) 2)(hsz:¬(size<1\/20<size))(htk0:(jA L f q size).tok 1≠⟨#[]⟩)(h3:¬3<=L.opened.length):
    Calls Yq.prog 40 #[.pointer (some ⟨k0,4,none⟩),sV root,qV q.vs q.p q.d q.af,.int .i64 size] w fun e w'=>
      (∃sv,e=.returned (.tuple #[.agg #[sv,.string (gu L f q size).2.2.1],.int .i64 (gu L f q size).2.2.2])/\bc A B k0 w (gu L f q size).1 (gu L f q size).2.1 sv w')\/Stop Qok e w':=by
  have c5:=h.begun;obtain ⟨v4,c4,zs,z1,z2,z3,z4⟩:=h.opened;obtain ⟨va4,vc4,rfl,-⟩:=aw z2;have hlz:L.opened.length=zs.length:=by rw [z1];simp
  have hlt:=h.lt;have HL:Hid (dh A B w k0 L):=h;obtain ⟨vs,p,d,af⟩:=q;unfold sV qV;have h1:¬size<1:=by omega
  have h2:¬20<size:=by omega
  have hbl:=sF;have hbp:=eQ;have hwb:wrap64 (L.begun+1)=L.begun+1:=by unfold wrap64;omega
  have hk1:k0<w.heap.size+1:=by omega
  have hk2:k0<w.heap.size+1+1:=by omega
  have hk3:k0<w.heap.size+1+1+1:=by omega
  obtain ⟨V,hV⟩:∃V,V=((((w.alloc (.cells #[.pointer root] 56)).alloc (.cells #[.bool vs,.string p,.string d,.string af] 93)).alloc (.cells #[.slice none 0 0,.string ⟨#[]⟩] 88)).alloc (.cells #[.int .i64 (L.begun+1),.pointer root,.bool vs,.string p,.string d,.string af,.int .i64 size,.int .i64 10] 125)).drew:=⟨_,rfl⟩;have hLV:ak w V:=by rw [hV];exact ((((ak.refl.alloc _).alloc _).alloc _).alloc _).drew
  have hVs:V.heap.size=w.heap.size+4:=by rw [hV];simp
  have hpre:F7 Qok ((jA L f ⟨vs,p,d,af⟩ size).lst root) f V:=⟨.of (ai.keep (A':=fun _=>True) (fun b _ hlt=>⟨trivial,hLV.block b hlt⟩) 41 root f hN),hq,hsum,hp,hGg _ (hG _ hLV)⟩;have HP0:=uF Qok hQ ((jA L f ⟨vs,p,d,af⟩ size).lst root) 1 f V hpre G (fun w' hl=>hG w' (hLV.trans hl)) (fun _=>hT);obtain ⟨tk,htk⟩:∃tk,tk=(jA L f ⟨vs,p,d,af⟩ size).tok 1:=⟨_,rfl⟩;obtain ⟨pg,hpg⟩:∃pg,pg=(jA L f ⟨vs,p,d,af⟩ size).page 1:=⟨_,rfl⟩;have HP:Calls Yq.prog 69 #[.agg #[.int .i64 (L.begun+1),.pointer root,.bool vs,.string p,.string d,.string af,.int .i64 size,.int .i64 10],.int .i64 1] V fun e w'=>(∃so sn sc,e=.returned (.agg #[.slice so sn sc,.string tk])/\w'.ownsRow V.heap.size 41 3 (.slice so sn sc) pg.length (ay pg)/\ak V w')\/Stop Qok e w':=by
    refine HP0.mono ?_;rintro e w' (⟨sv,rfl,h3,h4⟩|h)
    . left
      rw [htk,hpg];rw [gK (l:=(jA L f ⟨vs,p,d,af⟩ size).lst root) (l':=(jA L f ⟨vs,p,d,af⟩ size).lst none) rfl] at h3;obtain ⟨so,sn,sc,rfl⟩:∃so sn sc,sv=.slice so sn sc:=by
        rcases h3.2 with ⟨rfl,-⟩|⟨g,cap,cur,rfl,-⟩
        . exact ⟨_,_,_,rfl⟩
        . exact ⟨_,_,_,rfl⟩
      exact ⟨so,sn,sc,rfl,h3,h4⟩
    . exact .inr h
  clear HP0;have HF:Hid (∀w1,ak V w1->((w1.cell? ⟨w.heap.size+1+1+1,0,none⟩=some (.int .i64 (L.begun+1))/\w1.cell? ⟨w.heap.size+1+1+1,1,none⟩=some (.pointer root)/\w1.cell? ⟨w.heap.size+1+1+1,2,none⟩=some (.bool vs)/\w1.cell? ⟨w.heap.size+1+1+1,3,none⟩=some (.string p)/\w1.cell? ⟨w.heap.size+1+1+1,4,none⟩=some (.string d)/\w1.cell? ⟨w.heap.size+1+1+1,5,none⟩=some (.string af)/\w1.cell? ⟨w.heap.size+1+1+1,6,none⟩=some (.int .i64 size)/\w1.cell? ⟨w.heap.size+1+1+1,7,none⟩=some (.int .i64 10)) /\
      (w1.cell? ⟨w.heap.size+1+1,0,none⟩=some (.slice none 0 0)/\w1.cell? ⟨w.heap.size+1+1,1,none⟩=some (.string ⟨#[]⟩)/\w1.frozen? ⟨w.heap.size+1+1,0,none⟩=false/\w1.frozen? ⟨w.heap.size+1+1,1,none⟩=false) /\
      (w1.cell? ⟨k0,4,none⟩=some (.slice va4 zs.length vc4)/\w1.cell? ⟨k0,5,none⟩=some (.int .i64 L.begun)/\w1.frozen? ⟨k0,4,none⟩=false/\w1.frozen? ⟨k0,5,none⟩=false)/\(w.heap.size+1+1<w1.heap.size/\w.heap.size+1+1+1<w1.heap.size/\k0<w1.heap.size))):=fun w1 hl=>by
    have r3:V.heap[w.heap.size+3]?=some (.cells #[.int .i64 (L.begun+1),.pointer root,.bool vs,.string p,.string d,.string af,.int .i64 size,.int .i64 10] 125):=by
      rw [hV];simp only [World.drew,World.alloc,gP,Array.size_push]
      repeat rw [if_neg (by omega)]
      simp
    have r2:V.heap[w.heap.size+2]?=some (.cells #[.slice none 0 0,.string ⟨#[]⟩] 88):=by
      rw [hV];simp only [World.drew,World.alloc,gP,Array.size_push]
      repeat rw [if_neg (by omega)]
      simp
    have e3:=(hl.block _ (by omega)).trans r3;have e2:=(hl.block _ (by omega)).trans r2;have hfz:∀j,w1.frozen? ⟨k0,j,none⟩=false:=fun j=>(fB (a:=⟨k0,j,none⟩) ((hLV.trans hl).block k0 hlt)).trans (HL.out.frozen j)
    have:=hl.size;refine ⟨⟨?_,?_,?_,?_,?_,?_,?_,?_⟩,⟨?_,?_,?_,?_⟩,⟨(hLV.trans hl).cell c4,(hLV.trans hl).cell c5,hfz 4,hfz 5⟩,by omega,by omega,by omega⟩;all_goals simp [World.cell?,World.frozen?,e3,e2]
  have HX:Hid (ak w V/\ai A 41 w root f/\V.heap.size=w.heap.size+4):=⟨hLV,hN,hVs⟩;have HZ:Hid (L.opened=zs.map (·.1)/\w.ownsRow B 125 8 (.slice va4 zs.length vc4) zs.length (aS zs)/\(∀g,(Value.slice va4 zs.length vc4).ownBlock=some g->¬A g)/\∀z∈zs,ai A 41 w z.2 z.1.f):=⟨z1,z2,z3,z4⟩;have HB:Hid (gu L f ⟨vs,p,d,af⟩ size=(if tk=⟨#[]⟩ then (L,pg,⟨#[]⟩,0) else if 3<=L.opened.length then (L,[],⟨#[]⟩,8) else (⟨L.opened++[jA L f ⟨vs,p,d,af⟩ size],L.begun+1,lX tk (L.begun+1,2) L.told,L.tm⟩,pg,tk,0))):=by
    show gu L f ⟨vs,p,d,af⟩ size=_;rw [gu,if_neg hsz,<-htk,<-hpg]
  generalize gu L f ⟨vs,p,d,af⟩ size=R at *;have HV:Hid (V=((((w.alloc (.cells #[.pointer root] 56)).alloc (.cells #[.bool vs,.string p,.string d,.string af] 93)).alloc (.cells #[.slice none 0 0,.string ⟨#[]⟩] 88)).alloc (.cells #[.int .i64 (L.begun+1),.pointer root,.bool vs,.string p,.string d,.string af,.int .i64 size,.int .i64 10] 125)).drew):=hV;rw [<-htk] at htk0;replace htk:=htk0;clear hV hLV hVs hpre hpg hN z1 z2 z3 z4 hG hGg hT hq hsum hp h hQ;have hne':¬tk.toList=[]:=fun hx=>by
    have:(tk==(⟨#[]⟩:ByteArray))=true:=by rw [beq_toListBytes];simpa using hx
    exact htk ((MapKept.bytes_beq _ _).1 this)
  have hne:(tk.toList == [])=false:=by simpa using hne'
  have hR:R=(⟨L.opened++[jA L f ⟨vs,p,d,af⟩ size],L.begun+1,lX tk (L.begun+1,2) L.told,L.tm⟩,pg,tk,0):=by rw [HB.out,if_neg htk,if_neg h3]
  subst hR;have h3i:¬(3:Int)<=(zs.length:Int):=by omega
  obtain ⟨i0,hi0,hz0,hz1,hz2⟩:=info_parts Yq.infoLst;have hbq:=nR;obtain ⟨cL,hcL⟩:∃cL:Array Wq,cL=#[.int .i64 (L.begun+1),.pointer root,.bool vs,.string p,.string d,.string af,.int .i64 size,.int .i64 10]:=⟨_,rfl⟩;have HOW:Hid (∀w1,ak V w1->∀o o':Obj,((w1.alloc o).alloc o').drew.ownsRow B 125 8 (.slice va4 zs.length vc4) zs.length (aS zs)/\B<=((w1.alloc o).alloc o').drew.heap.size):=fun w1 hl o o'=>by
    have h5:ak w ((w1.alloc o).alloc o').drew:=(((HX.out.1.trans hl).alloc o).alloc o').drew;exact ⟨aX HZ.out.2.1 fun g _ hg=>h5.block g hg,lT hB h5.size⟩
  have HNW:Hid (∀ (w1:Wz) (o:Obj),∀j u,[Value.int .i64 (L.begun+1),.pointer root,.bool vs,.string p,.string d,.string af,.int .i64 size,.int .i64 10][j]?=some u->((w1.alloc o).alloc (.cells #[.int .i64 (L.begun+1),.pointer root,.bool vs,.string p,.string d,.string af,.int .i64 size,.int .i64 10] 125)).drew.cell? ((⟨w1.heap.size+1,0,none⟩:Ww).add j)=some u):=fun w1 o j u hj=>by
    have:=GH (w1.alloc o) _ 125 j u hj
    rwa [World.size_alloc] at this
  have HF3:Hid (∀w1,ak V w1->∀so sn sc w3,((w1.alloc (.cells #[.slice so sn sc,.string tk] 88)).alloc (.cells #[.int .i64 (L.begun+1),.pointer root,.bool vs,.string p,.string d,.string af,.int .i64 size,.int .i64 10] 125)).drew.grownBy w3 (Value.slice va4 zs.length vc4).ownBlock ->
      ((w3.cell? ⟨k0,4,none⟩=some (.slice va4 zs.length vc4)/\w3.cell? ⟨k0,5,none⟩=some (.int .i64 L.begun)/\w3.frozen? ⟨k0,4,none⟩=false/\w3.frozen? ⟨k0,5,none⟩=false) /\
       (w3.cell? ⟨w1.heap.size,0,none⟩=some (.slice so sn sc)/\w3.cell? ⟨w1.heap.size,1,none⟩=some (.string tk)/\w3.cell? ⟨w.heap.size+1+1+1,0,none⟩=some (.int .i64 (L.begun+1))) /\
       (w3.cell? ⟨w.heap.size+1+1,0,none⟩=some (.slice none 0 0)/\w3.cell? ⟨w.heap.size+1+1,1,none⟩=some (.string ⟨#[]⟩)/\w3.frozen? ⟨w.heap.size+1+1,0,none⟩=false/\w3.frozen? ⟨w.heap.size+1+1,1,none⟩=false) /\
       w.heap.size+1+1<w3.heap.size/\w.heap.size+1+1+1<w3.heap.size/\w1.heap.size<w3.heap.size/\k0<w3.heap.size)):=fun w1 hl1 so sn sc w3 hg3=>by
    obtain ⟨⟨q0,q1,q2,q3,q4,q5,q6,q7⟩,⟨s0,s1,z0,z1⟩,⟨m4,m5,n4,n5⟩,y2,y3,yk⟩:=HF.out w1 hl1;have hLa:ak w1 ((w1.alloc (.cells #[.slice so sn sc,.string tk] 88)).alloc (.cells #[.int .i64 (L.begun+1),.pointer root,.bool vs,.string p,.string d,.string af,.int .i64 size,.int .i64 10] 125)).drew:=((ak.refl.alloc _).alloc _).drew;have hsz:((w1.alloc (.cells #[.slice so sn sc,.string tk] 88)).alloc (.cells #[.int .i64 (L.begun+1),.pointer root,.bool vs,.string p,.string d,.string af,.int .i64 size,.int .i64 10] 125)).drew.heap.size=w1.heap.size+2:=by simp
    have hvb:∀b,w.heap.size<=b->some b≠(Value.slice va4 zs.length vc4).ownBlock:=fun b hb e=>by have:=(HZ.out.2.1.lt b e.symm).2;omega
    have hvk:some k0≠(Value.slice va4 zs.length vc4).ownBlock:=fun e=>by have:=(HZ.out.2.1.lt k0 e.symm).1;have:=HL.out.low;omega
    have bk:w3.heap[k0]?=w1.heap[k0]?:=(hg3.block k0 (by omega) hvk).trans (hLa.block k0 yk);have b2:w3.heap[w.heap.size+1+1]?=w1.heap[w.heap.size+1+1]?:=(hg3.block _ (by omega) (hvb _ (by omega))).trans (hLa.block _ y2);have b3:w3.heap[w.heap.size+1+1+1]?=w1.heap[w.heap.size+1+1+1]?:=(hg3.block _ (by omega) (hvb _ (by omega))).trans (hLa.block _ y3);have b1:w3.heap[w1.heap.size]?=some (.cells #[.slice so sn sc,.string tk] 88):=by
      rw [hg3.block _ (by omega) (hvb _ (by omega))];show ((w1.alloc (.cells #[.slice so sn sc,.string tk] 88)).alloc _).heap[w1.heap.size]?=_;rw [bA _ _ _ (by simp)];exact aN _ _
    have:=hg3.size;have hce:∀ {b:Nat},w3.heap[b]?=w1.heap[b]?->∀j,w3.cell? ⟨b,j,none⟩=w1.cell? ⟨b,j,none⟩:=fun h j=>cB (a:=⟨_,j,none⟩) h
    have hfe:∀ {b:Nat},w3.heap[b]?=w1.heap[b]?->∀j,w3.frozen? ⟨b,j,none⟩=w1.frozen? ⟨b,j,none⟩:=fun h j=>fB (a:=⟨_,j,none⟩) h
    refine ⟨⟨(hce bk 4).trans m4,(hce bk 5).trans m5,(hfe bk 4).trans n4,(hfe bk 5).trans n5⟩,⟨by simp [World.cell?,b1],by simp [World.cell?,b1],(hce b3 0).trans q0⟩,⟨(hce b2 0).trans s0,(hce b2 1).trans s1,(hfe b2 0).trans z0,(hfe b2 1).trans z1⟩,by omega,by omega,by omega,by omega⟩
  have HKP:Hid (∀w1,ak V w1->∀so sn sc,w1.ownsRow V.heap.size 41 3 (.slice so sn sc) pg.length (ay pg)->∀w3 v',w3.ownsRow B 125 8 v' (zs.length+1) (aS zs++[.int .i64 (L.begun+1),.pointer root,.bool vs,.string p,.string d,.string af,.int .i64 size,.int .i64 10])->((w1.alloc (.cells #[.slice so sn sc,.string tk] 88)).alloc (.cells #[.int .i64 (L.begun+1),.pointer root,.bool vs,.string p,.string d,.string af,.int .i64 size,.int .i64 10] 125)).drew.grownBy w3 (Value.slice va4 zs.length vc4).ownBlock ->
      (∀g,v'.ownBlock=some g->(Value.slice va4 zs.length vc4).ownBlock=some g\/((w1.alloc (.cells #[.slice so sn sc,.string tk] 88)).alloc (.cells #[.int .i64 (L.begun+1),.pointer root,.bool vs,.string p,.string d,.string af,.int .i64 size,.int .i64 10] 125)).drew.heap.size<=g)->w1.cell? ⟨w.heap.size+1+1,0,none⟩=some (.slice none 0 0) ->
      Calls Yq.prog 70 #[.pointer (some ⟨k0,4,none⟩),.string tk,.agg #[.int .i64 (L.begun+1),.int .i64 2]] ((w3.setCell ⟨k0,4,none⟩ v').setCell ⟨k0,5,none⟩ (.int .i64 (L.begun+1))) fun e w6=>e=.returned (.tuple #[])/\dp k0 ((w3.setCell ⟨k0,4,none⟩ v').setCell ⟨k0,5,none⟩ (.int .i64 (L.begun+1))) w6 /\
        ∀y0 y1,bc A B k0 w ⟨L.opened++[jA L f ⟨vs,p,d,af⟩ size],L.begun+1,lX tk (L.begun+1,2) L.told,L.tm⟩ pg (.slice so sn sc) ((w6.setCell ⟨w.heap.size+1+1,0,none⟩ y0).setCell ⟨w.heap.size+1+1,1,none⟩ y1)):=
    fun w1 hl1 so sn sc hrow w3 v' ho3 hg3 hvb hbox=>E2 HL.out hB HX.out.1 HX.out.2.2 hl1 hrow c4 HZ.out.1 HZ.out.2.1 HZ.out.2.2.1 HZ.out.2.2.2 (x:=jA L f ⟨vs,p,d,af⟩ size) HX.out.2.1 _ _ ho3 hg3 hvb (L.begun+1) tk (L.begun+1,2) hbox
  go_enter (Yq.nq Tryz.func40),Tryz.ntmps40;go_wp2_with fail
  go_region
  rw [<-HV.out];obtain ⟨⟨a0,a1,a2,a3,a4,a5,a6,a7⟩,-⟩:=HF.out V ak.refl;go_wp2_with (go_at_call 69;refine HP.mono ?_;clear HP;rintro e w1 (⟨so,sn,sc,rfl,hrow,hl1⟩|⟨x,y,r,rfl,hst⟩);rotate_left;exact ⟨rfl,Or.inr ⟨x,y,r,rfl,hst⟩⟩;obtain ⟨⟨q0,q1,q2,q3,q4,q5,q6,q7⟩,⟨s0,s1,z0,z1⟩,⟨m4,m5,n4,n5⟩,y2,y3,yk⟩:=HF.out w1 hl1)
  have yk1:k0<w1.heap.size+1:=by omega
  have y31:w.heap.size+1+1+1<w1.heap.size+1:=by omega
  go_region_law (refine cF rfl (.tmp 47) (.tmp 49) 60 rfl B 125 i0 _ 8 88 (Yq.u Tryz.underlying60) hi0 hz0 hz1 hz2 rfl (by decide) (.slice va4 zs.length vc4) zs.length (aS zs) (by simp [Act.eval]) (HOW.out w1 hl1 _ _).1 ⟨w1.heap.size+1,0,none⟩ 1 1 [.int .i64 (L.begun+1),.pointer root,.bool vs,.string p,.string d,.string af,.int .i64 size,.int .i64 10] (by simp [Act.eval]) rfl (HNW.out _ _) (one8 ((jA L f ⟨vs,p,d,af⟩ size).lst root)) (by simp only [maxLen];omega) (by omega) (HOW.out w1 hl1 _ _).2 ?_;intro v' w3 ho3 hg3 hvb;obtain ⟨va',vc',rfl,-⟩:=aw ho3;obtain ⟨⟨b4,b5,g4,g5⟩,⟨b0,b1,b2⟩,⟨t0,t1,u0,u1⟩,x2,x3,x4,xk⟩:=HF3.out w1 hl1 so sn sc w3 hg3;have HW3:Hid (_/\_/\_):=And.intro ho3 (And.intro hg3 hvb);clear ho3 hg3 hvb)
  all_goals
    have HK:=(HKP.out w1 hl1 so sn sc hrow w3 _ HW3.out.1 HW3.out.2.1 HW3.out.2.2 s0);clear HKP;go_wp2_with (go_at_call 70;refine HK.mono ?_;clear HK;rintro e w6 ⟨rfl,hk6,hfin⟩;have p0:=hk6.cell (ff b0 (by omega)) (by omega);have p1:=hk6.cell (ff b1 (by omega)) (by omega);have r0:=hk6.cell (ff t0 (by omega)) (by omega);have r1:=hk6.cell (ff t1 (by omega)) (by omega);have e0:w6.frozen? ⟨w.heap.size+1+1,0,none⟩=false:=(by rw [hk6.frozen (ff t0 (by omega)) (by omega),World.frozen?_setCell,World.frozen?_setCell];exact u0);have e1:w6.frozen? ⟨w.heap.size+1+1,1,none⟩=false:=(by rw [hk6.frozen (ff t1 (by omega)) (by omega),World.frozen?_setCell,World.frozen?_setCell];exact u1))
    exact bodyPost_ret (v:=.tuple #[.agg #[.slice so sn sc,.string tk],.int .i64 0]) (by simp [results,Tryz.results40,go_sem,r0,r1]) rfl (.inl ⟨_,rfl,hfin _ _⟩)
end
theorem wA {A:Nat->Prop}{B k0:Nat}{L:Lg}(Qok:Qy->Prop)(hQ:∀q,Qok q->gH q/\gI q)(w:Wz)(h:dh A B w k0 L)(hB:B<=w.heap.size)(root:Option Ww)(f:List UInt8->List Ver)(q:Qy)(size:Int)(hN:ai A 41 w root f)(hq:Qok q)(hsum:gm (db f q.p.data.toList)<=1000)(hp:q.p.size<=maxLen)(hbg:0<=L.begun/\L.begun<2199023255552)(hop:L.opened.length<=3)(G:Wz->Prop)(hGg:∀w',G w'->cI w')(hG:∀w',ak w w'->G w')(hT:jY G (L.begun+1) 2):
  Calls Yq.prog 40 #[.pointer (some ⟨k0,4,none⟩),sV root,qV q.vs q.p q.d q.af,.int .i64 size] w fun e w'=>
   (∃sv,e=.returned (.tuple #[.agg #[sv,.string (gu L f q size).2.2.1],.int .i64 (gu L f q size).2.2.2])/\bc A B k0 w (gu L f q size).1 (gu L f q size).2.1 sv w')\/Stop Qok e w':=by
 by_cases h1:size<1\/20<size
 .exact nT Qok hQ w h hB root f q size hN hq hsum hp hbg hop G hGg hG hT (.inl h1)
 .by_cases h2:(jA L f q size).tok 1=⟨#[]⟩
  .exact nT Qok hQ w h hB root f q size hN hq hsum hp hbg hop G hGg hG hT (.inr (.inl h2))
  .by_cases h3:3<=L.opened.length
   .exact nT Qok hQ w h hB root f q size hN hq hsum hp hbg hop G hGg hG hT (.inr (.inr h3))
   .exact AO Qok hQ w h hB root f q size hN hq hsum hp hbg hop G hGg hG hT h1 h2 h3
structure iE where
 code:Int
 ver:Int
 body:ByteArray
 items:List ItD
 tok:ByteArray
def iS (a:iE)(sv:Wq):Wq:=.agg #[.int .i64 a.code,.int .i64 a.ver,.string a.body,sv,.string a.tok]
def bg (A:Nat->Prop)(B k0:Nat)(w:Wz)(st':St)(L':Lg)(a:iE)(e:Ending)(w':Wz):Prop:=
 ∃sv,e=.returned (iS a sv)/\∃A':Nat->Prop,(∀b,A b->A' b)/\(∀b,A' b->A b\/w.heap.size<=b)/\aH A' B w' k0 st' L'/\dR A B k0 w w'/\bD A' w' sv a.items.length (ay a.items)
section
variable {A A':Nat->Prop} {B k0:Nat} {w w' w'':Wz} {st:St} {L L':Lg}
theorem dR.left (hk:k0<w.heap.size)(h:ak w w'):dR A B k0 w w':=(aI.left hk h).weak
theorem aH.left (h:aH A B w k0 st L)(hl:ak w w'):aH A B w' k0 st L:=h.step (aI.left h.ls.lt hl) (fun _ h=>h) (h.ls.left hl) rfl
theorem aH.other {b j:Nat}{x:Wq}(h:aH A B w k0 st L)(hb:b≠k0)(hA:¬A b)(hcl:ce w b)(hv:¬jw k0 w b)(hB:B<=b):aH A B (w.setCell ⟨b,j,none⟩ x) k0 st L:=
 h.step (aI.other hb hA hB) (fun _ h=>h) (h.ls.other hb hA hcl (fun v _g e1 e2 e3=>hv ⟨v,e1,e3▸e2⟩)) rfl
theorem kZ {W0 w1:Wz}{r:Nat}{sv:Wq}{its:List ItD}(hW:ak w W0)(hk:k0<w.heap.size)(hBw:B<=w.heap.size)(hr:w.heap.size<=r)(hrl:r<W0.heap.size)(hrc:ce W0 r)(_hA1:∀b,A b->A' b)(hA2:∀b,A' b->A b\/W0.heap.size<=b)(hAw:∀b,A b->b<w.heap.size)(hd:aH A' B w1 k0 st L')(hdw:dR A B k0 W0 w1)(hf:FrC k0 W0 w1)(ho:∀g,jw k0 W0 g->g<w.heap.size)(hrow:bD A' w1 sv its.length (ay its))(x0 x1 x2 x3 x4:Wq):
  (∀b,A' b->A b\/w.heap.size<=b)/\aH A' B (put5 w1 r x0 x1 x2 x3 x4) k0 st L'/\dR A B k0 w (put5 w1 r x0 x1 x2 x3 x4)/\bD A' (put5 w1 r x0 x1 x2 x3 x4) sv its.length (ay its):=by
 have hlow:=hd.ls.low;have hrk:r≠k0:=by omega
 have hnA:¬A' r:=fun h=>by
  rcases hA2 r h with h|h
  .have:=hAw r h;omega
  .omega
 have hno:¬jw k0 W0 r:=fun h=>by have:=ho r h;omega
 have e1:w1.heap[r]?=W0.heap[r]?:=hf.keep r hrc hrk hno;have hc1:ce w1 r:=hrc.same e1;have hno1:¬jw k0 w1 r:=fun h=>by
  rcases hf.own r h with h|h
  .exact hno h
  .omega
 have hopen:∀ (W:Wz) (j:Nat) (x:Wq),¬jw k0 W r->¬jw k0 (W.setCell ⟨r,j,none⟩ x) r:=fun W j x h=>by
  rintro ⟨v,h1,h2⟩;exact h ⟨v,(cB (a:=⟨k0,4,none⟩) (bS _ _ _ _ (fun e=>hrk e.symm))).symm.trans h1,h2⟩
 have hset:∀b,b≠r->(put5 w1 r x0 x1 x2 x3 x4).heap[b]?=w1.heap[b]?:=fun b hb=>by
  unfold put5;rw [bS _ _ _ _ hb,bS _ _ _ _ hb,bS _ _ _ _ hb,bS _ _ _ _ hb,bS _ _ _ _ hb]
 refine ⟨fun b hb=>(hA2 b hb).imp id fun h=>by have:=hW.size;omega,?_,(dR.left hk hW).trans (hdw.trans ?_),bD.keep hrow fun b hb _=>⟨hb,hset b (fun e=>hnA (e▸hb))⟩⟩
 .unfold put5;exact ((((hd.other hrk hnA hc1 hno1 (by omega)).other hrk hnA hc1.set (hopen _ _ _ hno1) (by omega)).other hrk hnA hc1.set.set (hopen _ _ _ (hopen _ _ _ hno1)) (by omega)).other hrk hnA hc1.set.set.set (hopen _ _ _ (hopen _ _ _ (hopen _ _ _ hno1))) (by omega)).other hrk hnA hc1.set.set.set.set (hopen _ _ _ (hopen _ _ _ (hopen _ _ _ (hopen _ _ _ hno1)))) (by omega)
 .have hkk:=hset k0 (fun e=>hrk e.symm);exact ⟨rfl,by simp [put5],fun b h1 _ _=>hset b (by omega),fun b hb _=>hset b (fun e=>by have:=hAw b hb;omega),fun j _=>cB (a:=⟨k0,j,none⟩) hkk,fun j=>fB (a:=⟨k0,j,none⟩) hkk⟩
end
end
