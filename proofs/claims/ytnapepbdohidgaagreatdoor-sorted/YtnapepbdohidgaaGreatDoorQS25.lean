/- A part. -/
import Derived.Test.YtnapepbdohidgaaGreatDoorQS24
set_option maxHeartbeats 4000000
set_option maxRecDepth 100000
open Go renaming World->Wz,Value->Wq,Addr->Ww
namespace Go.Proofs.Qw
section
open Go
open Go.Conc Go.ConcX Go.ConcX.Gen Go.RowKit
def kD (z:LsA×Option Ww):Bool:=decide (z.1.left<=0)
def gt (z:LsA×Option Ww):Bool:=!kD z
structure dj (g:Option Nat)(w w':Wz):Prop where
 os:w'.os=w.os
 size:w.heap.size<=w'.heap.size
 block:∀b,b<w.heap.size->g≠some b->w'.heap[b]?=w.heap[b]?
theorem dj.refl {g:Option Nat}{w:Wz}:dj g w w:=⟨rfl,lR _,fun _ _ _=>rfl⟩
theorem dj.trans {g:Option Nat}{w w' w'':Wz}(h:dj g w w')(k:dj g w' w''):dj g w w'':=⟨k.os.trans h.os,lT h.size k.size,fun b hb hg=>(k.block b (lL hb h.size) hg).trans (h.block b hb hg)⟩
theorem dj.below {g:Option Nat}{w w':Wz}(h:Below w.heap.size w w'):dj g w w':=⟨h.os,h.size,fun b hb _=>h.block b hb⟩
theorem dj.set {w w':Wz}{g j:Nat}{v:Wq}(h:dj (some g) w w'):dj (some g) w (w'.setCell ⟨g,j,none⟩ v):=
 ⟨h.os,by have:=h.size;simpa using this,fun b hb hg=>(bS _ _ _ _ (fun e=>hg (by rw [show b=g from e]))).trans (h.block b hb hg)⟩
theorem dj.set8 {w:Wz}{g i:Nat}{l:Lst}:dj (some g) w (set8 w g i l):=
 dj.set (dj.set (dj.set (dj.set (dj.set (dj.set (dj.set (dj.set dj.refl)))))))
theorem Ca (w:Wz)(g:Nat)(cur cs:Array Wq)(T:TypeId)(hg:w.heap[g]?=some (.cells cur T (0,0))):(w.setRow g cs).heap[g]?=some (.cells cs T (0,0)):=setRow_heap w g cur cs T _ hg
theorem dj.setRow {w:Wz}{g:Nat}{cur cs:Array Wq}{T:TypeId}(_hg:w.heap[g]?=some (.cells cur T (0,0))):dj (some g) w (w.setRow g cs):=by
 refine ⟨rfl,?_,fun b hb hne=>?_⟩
 .simp [World.setRow]
 .have:b≠g:=fun e=>hne (by rw [e])
  simp [World.setRow,Array.getElem?_modify,this.symm]
theorem mh.cut {B:Nat}{w:Wz}{g cap i:Nat}{ys:List (LsA×Option Ww)}{cur cur':Array Wq}(h:mh B w g cap ys)(hg:w.heap[g]?=some (.cells cur 125 (0,0)))(hs:cur'.size=cur.size)(ht:cur'.toList.take (i * 8)=cur.toList.take (i * 8))(hi:i<=ys.length):mh B (w.setRow g cur') g cap (ys.take i):=by
 have hr:=Ca w g cur cur' 125 hg;obtain ⟨c2,h1,h2⟩:=h.obj;rw [hg] at h1;cases h1;refine ⟨h.base,⟨cur',hr,by omega⟩,by rw [tL];have:=h.le;omega,h.max,fun k hk j hj=>?_⟩;have hk':k<i:=by rw [tL] at hk;omega
 have h3:=h.cells k (by omega) j hj;rw [cell_of_row w g _ cur 125 (0,0) hg] at h3;rw [cell_of_row _ g _ cur' 125 (0,0) hr,List.getElem_take,<-h3];have h4:=congrArg (fun l:List Wq=>l[k * 8+j]?) ht;simp only [List.getElem?_take] at h4;have hlt:k * 8+j<i * 8:=by omega
 simpa [hlt] using h4
theorem Ee (w:Wz):(zeroValue 125).run Yq.prog w=.ok (.agg #[.int .i64 0,.pointer none,.bool false,.string ⟨#[]⟩,.string ⟨#[]⟩,.string ⟨#[]⟩,.int .i64 0,.int .i64 0]) w:=by kernel_rfl
theorem Cb (w:Wz)(g o n:Nat)(cur:Array Wq)(hg:w.heap[g]?=some (.cells cur 125 (0,0)))(hn:0<n)(hfit:o+n * 8<=cur.size):
  ∃cur':Array Wq,(∀ty c,(Builtin.clear_ #[60] ty #[.slice (some ⟨g,o,none⟩) n c]).run Yq.prog w=.ok (.tuple #[]) (w.setRow g cur'))/\cur'.size=cur.size/\cur'.toList.take o=cur.toList.take o:=by
 have hone:∀v∈(Value.agg #[.int .i64 0,.pointer none,.bool false,.string ⟨#[]⟩,.string ⟨#[]⟩,.string ⟨#[]⟩,.int .i64 0,.int .i64 0]).cells.toList,v.oneCell'=true:=by
  intro v hv;simp [Value.cells] at hv;rcases hv with rfl|rfl|rfl|rfl|rfl|rfl<;>rfl
 obtain ⟨cur',h1,h2,h3⟩:=ul (P:=Yq.prog) w 60 125 0 _ (Yq.u Tryz.underlying60) Ee hone g o n 0 cur 125 hg hn (by simpa [Value.cells] using hfit);have h0:∀ty ty' c c',(Builtin.clear_ #[60] ty #[.slice (some ⟨g,o,none⟩) n c]).run Yq.prog w=(Builtin.clear_ #[60] ty' #[.slice (some ⟨g,o,none⟩) n c']).run Yq.prog w:=fun ty ty' c c'=>by
  obtain ⟨m,rfl⟩:∃m,n=m+1:=⟨n-1,by omega⟩;simp [Builtin.clear_,run_underlying (Yq.u Tryz.underlying60)]
 exact ⟨cur',fun ty c=>(h0 ty 0 c 0).trans h1,h2,h3⟩
theorem rT (l:Lst)(w:Wz):Calls Yq.prog 100 #[lV l] w fun e w'=>e=.returned (.bool (decide (l.left<=0)))/\Below w.heap.size w w':=by
 unfold lV aE;go_enter (Yq.nq Tryz.func100),Tryz.ntmps100;go_wp2_with fail
 go_ret;exact ⟨rfl,(bR _ _).alloc (lR _) _⟩
theorem Cc (B:Nat)(va:Option Ww)(vc:Nat)(zs:List (LsA×Option Ww))(w:Wz)(hz:w.ownsRow B 125 8 (.slice va zs.length vc) zs.length (aV zs))(hl:zs.length<=3):
  Calls Yq.prog 71 #[.slice va zs.length vc,.func (.func 100) #[] #[]] w fun e w'=>e=.returned (.int .i64 (((zs.findIdx? kD).map fun (i:Nat)=>(i:Int)).getD (-1)))/\Below w.heap.size w w':=by
 have HZ:Hid (w.ownsRow B 125 8 (.slice va zs.length vc) zs.length (aV zs)):=hz;obtain ⟨R,hR⟩:∃R:Int,R=((zs.findIdx? kD).map fun (i:Nat)=>(i:Int)).getD (-1):=⟨_,rfl⟩;have HR:Hid (R=((zs.findIdx? kD).map fun (i:Nat)=>(i:Int)).getD (-1)):=hR;rw [<-hR];clear hz hR;go_enter (Yq.nq Tryz.func71),Tryz.ntmps71;go_wp2_with fail
 go_loopw [5,8] (fun _ s8 wr=>∃i:Nat,i<=zs.length/\s8=.int .i64 i/\(∀j (hj:j<zs.length),j<i->kD zs[j]=false)/\Below w.heap.size w wr) (fun _ s8 _=>zs.length-(intOf s8).toNat)
 case atStart=>exact ⟨0,Nat.zero_le _,rfl,fun _ _ h=>absurd h (by omega),bR _ _⟩
 case round=>
  obtain ⟨i,hi,rfl,hno,hb⟩:=hrel;by_cases hlt:i<zs.length
  .obtain ⟨g,cap,he⟩:∃g cap,Value.slice va zs.length vc=.slice (some ⟨g,0,none⟩) zs.length cap:=by
    rcases HZ.out.2 with ⟨h1,h2⟩|⟨g,cap,cur,h1,-⟩
    .omega
    .exact ⟨g,cap,h1⟩
   cases he;obtain ⟨q0,q1,q2,q3,q4,q5,q6,q7⟩:=kz HZ.out i hlt;replace q0:=ak hb q0;replace q1:=ak hb q1;replace q2:=ak hb q2;replace q3:=ak hb q3;replace q4:=ak hb q4;replace q5:=ak hb q5;replace q6:=ak hb q6;replace q7:=ak hb q7;have HF:Calls Yq.prog 100 #[.agg #[.int .i64 zs[i].1.num,.pointer zs[i].2,.bool zs[i].1.q.vs,.string zs[i].1.q.p,.string zs[i].1.q.d,.string zs[i].1.q.af,.int .i64 zs[i].1.size,.int .i64 zs[i].1.left]] wr fun e w'=>e=.returned (.bool (kD zs[i]))/\Below wr.heap.size wr w':=rT (zs[i].1.lst zs[i].2) wr
   have HNO:Hid ((∀j (hj:j<zs.length),j<i->kD zs[j]=false)/\Below w.heap.size w wr):=⟨hno,hb⟩;clear hno hb;cases hb2:kD zs[i] with
   |true=>
    rw [hb2] at HF;have HE:Hid (R=(i:Int)):=by
     show R=(i:Int);have:zs.findIdx? kD=some i:=by
      rw [List.findIdx?_eq_some_iff_getElem];refine ⟨hlt,hb2,fun j hj=>?_⟩;have:=HNO.out.1 j (by omega) hj;simp [this]
     rw [HR.out,this];rfl
    go_wp2_with (go_at_call 100;refine HF.mono ?_;clear HF;rintro e w1 ⟨rfl,hb1⟩)
    go_ret;exact ⟨by rw [HE.out];rfl,HNO.out.2.trans (hb1.mono HNO.out.2.size)⟩
   |false=>
    rw [hb2] at HF;go_wp2_with (go_at_call 100;refine HF.mono ?_;clear HF;rintro e w1 ⟨rfl,hb1⟩)
    refine ⟨⟨i+1,by omega,by go_num,fun j hj hji=>?_,HNO.out.2.trans (hb1.mono HNO.out.2.size)⟩,by simp [intOf];omega⟩;by_cases hj2:j=i
    .subst hj2;exact hb2
    .exact HNO.out.1 j hj (by omega)
  .have:i=zs.length:=by omega
   subst this;go_wp2_with fail
   go_ret;refine ⟨?_,hb⟩;have:zs.findIdx? kD=none:=by
    rw [List.findIdx?_eq_none_iff];intro z hz;obtain ⟨j,hj,rfl⟩:=gM hz;exact hno j hj hj
   rw [HR.out,this];rfl
theorem jh {zs:List (LsA×Option Ww)}{j:Nat}(hj:j<zs.length):(zs.take (j+1)).filter gt=(zs.take j).filter gt++(if gt zs[j] then [zs[j]] else []):=by
 rw [tS hj,List.filter_append];congr 1;by_cases h:gt zs[j]=true
 .simp [h]
 .simp [h]
theorem zQ (B:Nat)(va:Option Ww)(vc:Nat)(zs:List (LsA×Option Ww))(w:Wz)(hz:w.ownsRow B 125 8 (.slice va zs.length vc) zs.length (aV zs))(hl:zs.length<=3):
  Calls Yq.prog 99 #[.slice va zs.length vc,.func (.func 100) #[] #[]] w fun e w'=>∃v',e=.returned v'/\w'.ownsRow B 125 8 v' (zs.filter gt).length (aV (zs.filter gt))/\(∀g,v'.ownBlock=some g->(Value.slice va zs.length vc).ownBlock=some g)/\dj (Value.slice va zs.length vc).ownBlock w w':=by
 have HIX:=Cc B va vc zs w hz hl;cases hp:zs.findIdx? kD with
 |none=>
  rw [hp] at HIX;simp only [Option.map_none,Option.getD_none] at HIX;have hall:zs.filter gt=zs:=by
   rw [List.filter_eq_self];intro z hz;have:=List.findIdx?_eq_none_iff.1 hp z hz;simp [gt,this]
  rw [hall];have HZ:Hid (w.ownsRow B 125 8 (.slice va zs.length vc) zs.length (aV zs)):=hz;clear hz hall hp;go_enter (Yq.nq Tryz.func99),Tryz.ntmps99;go_wp2_with (go_at_call 71;refine HIX.mono ?_;clear HIX;rintro e w1 ⟨rfl,hb1⟩)
  go_ret;exact ⟨_,rfl,bc HZ.out fun g _ hg=>hb1.block g hg,fun _ h=>h,.below hb1⟩
 |some p=>
  rw [hp] at HIX;simp only [Option.map_some,Option.getD_some] at HIX;obtain ⟨hp1,hp2,hp3⟩:=List.findIdx?_eq_some_iff_getElem.1 hp;obtain ⟨g,cap,he⟩:∃g cap,Value.slice va zs.length vc=.slice (some ⟨g,0,none⟩) zs.length cap:=by
   rcases hz.2 with ⟨h1,h2⟩|⟨g,cap,cur,h1,-⟩
   .omega
   .exact ⟨g,cap,h1⟩
  cases he;have hR0:=mh.of_owns hz;have HS:Hid (mh B w g vc zs/\(zs.take (p+1)).filter gt=zs.take p):=by
   refine ⟨hR0,?_⟩;rw [jh hp1];have e1:(zs.take p).filter gt=zs.take p:=by
    rw [List.filter_eq_self];intro z hz;obtain ⟨j,hj,rfl⟩:=gM hz;have hj':j<p:=by simp at hj;omega
    have:=hp3 j hj';rw [List.getElem_take];simpa [gt] using this
   rw [e1];simp [gt,hp2]
  have hpI:((p:Int) == -1)=false:=by simp
  have hpI2:¬((p:Int)=-1):=by omega
  have hvc:zs.length<=vc:=hR0.le;clear hz hp hp2 hp3 hR0;go_enter (Yq.nq Tryz.func99),Tryz.ntmps99;go_wp2_with (go_at_call 71;refine HIX.mono ?_;clear HIX;rintro e w1 ⟨rfl,hb1⟩)
  go_loopw [5,6,7] (fun s5 s6 _ wr=>∃ (i j:Nat) (ys:List (LsA×Option Ww)),s5=.int .i64 i/\s6=.int .i64 j/\j<=zs.length/\i<j/\ys.length=zs.length/\ys.take i=(zs.take j).filter gt/\ys.drop j=zs.drop j/\mh B wr g vc ys/\dj (some g) w wr) (fun _ s6 _ _=>zs.length-(intOf s6).toNat)
  case atStart=>exact ⟨p,p+1,zs,rfl,by go_num,hp1,by omega,rfl,HS.out.2.symm,rfl,HS.out.1.same (hb1.block g HS.out.1.lt),.below hb1⟩
  case round=>
   obtain ⟨i,j,ys,rfl,rfl,hj,hij,hys,htk,hdr,hrow,hleft⟩:=hrel;by_cases hlt:j<zs.length
   .have hjy:j<ys.length:=by omega
    have hiy:i<ys.length:=by omega
    have eyj:ys[j]=zs[j]:=by
     have h1:(ys.drop j)[0]?=(zs.drop j)[0]?:=by rw [hdr]
     rw [List.getElem?_drop,List.getElem?_drop,Nat.add_zero,eL hjy,eL hlt] at h1;exact oJ h1
    have hc:=hrow.cells j hjy;rw [eyj] at hc;have q0:=hc 0 (by omega);have q1:=hc 1 (by omega);have q2:=hc 2 (by omega);have q3:=hc 3 (by omega);have q4:=hc 4 (by omega);have q5:=hc 5 (by omega);have q6:=hc 6 (by omega);have q7:=hc 7 (by omega);simp only [aE,LsA.lst,gA,gZ,gS,Nat.add_zero] at q0 q1 q2 q3 q4 q5 q6 q7;obtain ⟨W,hW⟩:∃W,W=wr.alloc (.cells #[.int .i64 zs[j].1.num,.pointer zs[j].2,.bool zs[j].1.q.vs,.string zs[j].1.q.p,.string zs[j].1.q.d,.string zs[j].1.q.af,.int .i64 zs[j].1.size,.int .i64 zs[j].1.left] 125):=⟨_,rfl⟩;have HF:Calls Yq.prog 100 #[.agg #[.int .i64 zs[j].1.num,.pointer zs[j].2,.bool zs[j].1.q.vs,.string zs[j].1.q.p,.string zs[j].1.q.d,.string zs[j].1.q.af,.int .i64 zs[j].1.size,.int .i64 zs[j].1.left]] W fun e w'=>e=.returned (.bool (kD zs[j]))/\Below W.heap.size W w':=rT (zs[j].1.lst zs[j].2) W
    have hgl:=hrow.lt;have HI:Hid (ys.length=zs.length/\ys.take i=(zs.take j).filter gt/\ys.drop j=zs.drop j/\mh B wr g vc ys/\dj (some g) w wr):=⟨hys,htk,hdr,hrow,hleft⟩;have HB:Hid (∀w2,Below W.heap.size W w2->dj (some g) w w2/\mh B w2 g vc ys /\
      (w2.cell? ⟨wr.heap.size,0,none⟩=some (.int .i64 zs[j].1.num)/\w2.cell? ⟨wr.heap.size,1,none⟩=some (.pointer zs[j].2)/\w2.cell? ⟨wr.heap.size,2,none⟩=some (.bool zs[j].1.q.vs)/\w2.cell? ⟨wr.heap.size,3,none⟩=some (.string zs[j].1.q.p)/\w2.cell? ⟨wr.heap.size,4,none⟩=some (.string zs[j].1.q.d)/\w2.cell? ⟨wr.heap.size,5,none⟩=some (.string zs[j].1.q.af)/\w2.cell? ⟨wr.heap.size,6,none⟩=some (.int .i64 zs[j].1.size)/\w2.cell? ⟨wr.heap.size,7,none⟩=some (.int .i64 zs[j].1.left))):=fun w2 hb2=>by
     have hbw:Below wr.heap.size wr W:=by rw [hW];exact (bR _ _).alloc (lR _) _
     have e:w2.heap[wr.heap.size]?=some (.cells #[.int .i64 zs[j].1.num,.pointer zs[j].2,.bool zs[j].1.q.vs,.string zs[j].1.q.p,.string zs[j].1.q.d,.string zs[j].1.q.af,.int .i64 zs[j].1.size,.int .i64 zs[j].1.left] 125):=by
      rw [hb2.block _ (by rw [hW];simp),hW];exact aN _ _
     refine ⟨hleft.trans ((dj.below hbw).trans (.below hb2)),hrow.same ((hb2.block g (by have:=hbw.size;omega)).trans (hbw.block g hgl)),?_⟩;refine ⟨?_,?_,?_,?_,?_,?_,?_,?_⟩<;>simp [World.cell?,e]
    clear hys htk hdr hrow hleft hc eyj;cases hov:kD zs[j] with
    |true=>
     rw [hov] at HF;rw [hW] at HF;go_wp2_with (go_at_call 100;refine HF.mono ?_;clear HF;rintro e w2 ⟨rfl,hb2⟩)
     obtain ⟨h1,h2,-⟩:=HB.out w2 (by rw [hW];exact hb2);obtain ⟨k1,k2,k3,-,-⟩:=HI.out;refine ⟨⟨i,j+1,ys,rfl,by go_num,by omega,by omega,k1,?_,?_,h2,h1⟩,by simp [intOf];omega⟩
     .rw [jh hlt,k2];simp [gt,hov]
     .have:=congrArg (List.drop 1) k3
      rwa [List.drop_drop,List.drop_drop] at this
    |false=>
     rw [hov] at HF;rw [hW] at HF;go_wp2_with (go_at_call 100;refine HF.mono ?_;clear HF;rintro e w2 ⟨rfl,hb2⟩;obtain ⟨hl2,hr2,b0,b1,b2,b3,b4,b5,b6,b7⟩:=HB.out w2 (by rw [hW];exact hb2);have hc:=hr2.cells i hiy;have p0:=hc 0 (by omega);have p1:=hc 1 (by omega);have p2:=hc 2 (by omega);have p3:=hc 3 (by omega);have p4:=hc 4 (by omega);have p5:=hc 5 (by omega);have p6:=hc 6 (by omega);have p7:=hc 7 (by omega);simp only [aE,LsA.lst,gA,gZ,gS,Nat.add_zero] at p0 p1 p2 p3 p4 p5 p6 p7;have f0:=hr2.frozen (i * 8);have f1:=hr2.frozen (i * 8+1);have f2:=hr2.frozen (i * 8+2);have f3:=hr2.frozen (i * 8+3);have f4:=hr2.frozen (i * 8+4);have f5:=hr2.frozen (i * 8+5);have f6:=hr2.frozen (i * 8+6);have f7:=hr2.frozen (i * 8+7);have HE:Hid (_/\_):=And.intro hl2 hr2;clear hl2 hr2 hc)
     obtain ⟨k1,k2,k3,-,-⟩:=HI.out;refine ⟨⟨i+1,j+1,ys.set i zs[j],by go_num,by go_num,by omega,by omega,by simp [k1],?_,?_,HE.out.2.set8 i hiy zs[j],?_⟩,by simp [intOf];omega⟩
     .rw [jh hlt,<-k2,tS (by simpa using hiy),List.getElem_set_self];have:(ys.set i zs[j]).take i=ys.take i:=by rw [List.take_set];exact List.set_eq_of_length_le (by simp;omega)
      rw [this];simp [gt,hov]
     .rw [List.drop_set_of_lt (by omega)];have:=congrArg (List.drop 1) k3
      rwa [List.drop_drop,List.drop_drop] at this
     .exact HE.out.1.trans (dj.set8 (l:=zs[j].1.lst zs[j].2))
   .have:j=zs.length:=by omega
    subst this;obtain ⟨cur,hcur,hcs⟩:=hrow.obj;obtain ⟨cur',hcl0,hs',ht'⟩:=Cb wr g (i * 8) (zs.length-i) cur hcur (by omega) (by omega);have HEN:Hid (mh B (wr.setRow g cur') g vc (zs.filter gt)/\(zs.filter gt).length=i/\dj (some g) w (wr.setRow g cur')):=by
     have hr:=hrow.cut hcur hs' ht' (by omega);rw [htk,tO (lR _)] at hr;refine ⟨hr,?_,hleft.trans (dj.setRow hcur)⟩;have:=congrArg List.length htk;rw [tO (lR zs.length),tL] at this;omega
    clear hrow hleft htk hdr hys hcur hs' ht';go_wp2_with fail
    go_ret;obtain ⟨e1,e2,e3⟩:=HEN.out;have e4:=e1.owns;rw [e2] at e4 ⊢;exact ⟨_,rfl,e4,fun _ h=>h,e3⟩
def pY (L:Lg)(u:Int):Lg:={L with opened:=(L.opened.map fun x=>x.again (x.left-u)).filter fun x=>!decide (x.left<=0)}
section
variable {A:Nat->Prop} {B k0:Nat} {L:Lg}
theorem di.reopen {w w':Wz}(h:di A B w k0 L){v v':Wq}{zs ys:List (LsA×Option Ww)}(c4:w.cell? ⟨k0,4,none⟩=some v)(z2:w.ownsRow B 125 8 v zs.length (aV zs))(z3:∀g,v.ownBlock=some g->¬A g)(ho:w'.ownsRow B 125 8 v' ys.length (aV ys))(hvb:∀g,v'.ownBlock=some g->v.ownBlock=some g)(hl:dj v.ownBlock w w')(hy:∀z∈ys,ai A 41 w z.2 z.1.f):
  di A B (w'.setCell ⟨k0,4,none⟩ v') k0 {L with opened:=ys.map (·.1)}/\aI A B k0 w (w'.setCell ⟨k0,4,none⟩ v')/\FrC k0 w (w'.setCell ⟨k0,4,none⟩ v'):=by
 have hk:=h.low;have hlt:=h.lt;obtain ⟨mv,c6,hm⟩:=h.told;have hvk:∀g,v.ownBlock=some g->B<=g:=fun g hg=>(z2.lt g hg).1
 have hbk:w'.heap[k0]?=w.heap[k0]?:=hl.block k0 hlt (fun e=>by have:=hvk k0 e;omega);have hset:∀b,b≠k0->(w'.setCell ⟨k0,4,none⟩ v').heap[b]?=w'.heap[b]?:=fun b hb=>bS _ _ _ _ hb
 have hA3:∀b,A b->(w'.setCell ⟨k0,4,none⟩ v').heap[b]?=w.heap[b]?:=fun b hb=>(hset b (fun e=>h.avoid (e▸hb))).trans (hl.block b (h.inn b hb) (fun e=>z3 b e hb))
 have hc3:∀j,w'.cell? ⟨k0,j,none⟩=w.cell? ⟨k0,j,none⟩:=fun j=>cB (a:=⟨k0,j,none⟩) hbk
 have hcj:∀j,j≠4->(w'.setCell ⟨k0,4,none⟩ v').cell? ⟨k0,j,none⟩=w.cell? ⟨k0,j,none⟩:=fun j h4=>by
  rw [cO _ _ _ _ (bE fun e=>h4 e.symm),hc3]
 have hfz:∀j,(w'.setCell ⟨k0,4,none⟩ v').frozen? ⟨k0,j,none⟩=w.frozen? ⟨k0,j,none⟩:=fun j=>by
  rw [World.frozen?_setCell];exact fB (a:=⟨k0,j,none⟩) hbk
 have hsz:w.heap.size<=(w'.setCell ⟨k0,4,none⟩ v').heap.size:=by have:=hl.size;simpa using this
 refine ⟨⟨⟨v',?_,ys,rfl,ed ho fun g hg=>hset g (by have:=(ho.lt g hg).1;omega),fun g hg=>z3 g (hvb g hg),fun z hz=>ai.keep (fun b hb _=>⟨hb,hA3 b hb⟩) 41 _ _ (hy z hz)⟩,(hcj 5 (by omega)).trans h.begun,⟨mv,(hcj 6 (by omega)).trans c6,?_⟩,fun j=>(hfz j).trans (h.frozen j),h.avoid,h.low,fun b hb=>lL (h.inn b hb) hsz⟩,⟨hl.os,hsz,fun b h1 h2 h3=>(hset b h3).trans (hl.block b h2 (fun e=>by have:=hvk b e;omega)),fun b hb _=>hA3 b hb,fun j hj=>hcj j (by omega),hfz⟩,?_⟩
 rotate_right
 .refine ⟨hsz,fun b hb hbk ho=>(hset b hbk).trans (hl.block b hb.lt (fun e=>ho ⟨v,c4,e⟩)),fun b ho=>?_⟩;obtain ⟨x,h1,h2⟩:=ho;rw [cS _ _ _ (by rw [hc3,c4];rfl)] at h1;cases h1;exact .inl ⟨v,c4,hvb b h2⟩
 .exact cS _ _ _ (by rw [hc3,c4];rfl)
 .rcases hm with hm|⟨m,es,clock,m1,m2,m3,m4,m5⟩
  .exact .inl hm
  .refine .inr ⟨m,es,clock,m1,?_,m3,m4,m5⟩;rw [hset m (by omega),hl.block m (eS m2).1 (fun e=>?_)]
   .exact m2
   .rcases z2.2 with ⟨rfl,-⟩|⟨g,cap,cur,rfl,hb,hr,-⟩
    .cases e
    .cases e;rw [hr] at m2;cases m2
def Ex (u:Int)(z:LsA×Option Ww):LsA×Option Ww:=(z.1.again (z.1.left-u),z.2)
theorem Ef (w:Wz)(h:di A B w k0 L)(hop:L.opened.length<=3)(u:Int)(hu:0<=u/\u<=1000)(hlf:∀x∈L.opened,0<=x.left/\x.left<=10):
  Calls Yq.prog 75 #[.pointer (some ⟨k0,4,none⟩),.int .i64 u] w fun e w'=>e=.returned (.tuple #[])/\di A B w' k0 (pY L u)/\aI A B k0 w w'/\FrC k0 w w':=by
 obtain ⟨v4,c4,zs,z1,z2,z3,z4⟩:=h.opened;obtain ⟨va4,vc4,rfl,-⟩:=ay z2;have hlz:L.opened.length=zs.length:=by rw [z1];simp
 have hlt:=h.lt;have hlf':∀i (hi:i<zs.length),0<=zs[i].1.left/\zs[i].1.left<=10:=fun i hi=>hlf _ (by rw [z1];exact List.mem_map.2 ⟨zs[i],List.getElem_mem hi,rfl⟩)
 have hzl:zs.length<=3:=by omega
 obtain ⟨yz,hyz⟩:∃yz:Nat->List (LsA×Option Ww),yz=fun i=>(zs.take i).map (Ex u)++zs.drop i:=⟨_,rfl⟩
 have hylen:∀i,(yz i).length=zs.length:=fun i=>by rw [hyz];simp;omega
 have HY:Hid (yz=fun i=>(zs.take i).map (Ex u)++zs.drop i):=hyz;have HL:Hid (di A B w k0 L/\(L.opened=zs.map (·.1))/\w.ownsRow B 125 8 (.slice va4 zs.length vc4) zs.length (aV zs)/\(∀g,(Value.slice va4 zs.length vc4).ownBlock=some g->¬A g)/\(∀z∈zs,ai A 41 w z.2 z.1.f)):=⟨h,z1,z2,z3,z4⟩;clear hyz z1 z2 z3 z4 hlf h;go_enter (Yq.nq Tryz.func75),Tryz.ntmps75;go_wp2_with fail
 go_loopw [4,10] (fun _ s10 wr=>∃i:Nat,i<=zs.length/\s10=.int .i64 i/\di A B wr k0 {L with opened:=(yz i).map (·.1)}/\aI A B k0 w wr/\FrC k0 w wr/\wr.cell? ⟨k0,4,none⟩=some (.slice va4 zs.length vc4)/\wr.ownsRow B 125 8 (.slice va4 zs.length vc4) (yz i).length (aV (yz i))/\∀z∈yz i,ai A 41 wr z.2 z.1.f) (fun _ s10 _=>zs.length-(intOf s10).toNat)
 case atStart=>
  have e0:yz 0=zs:=by rw [HY.out];simp
  obtain ⟨h1,h2,h3,h4,h5⟩:=HL.out;refine ⟨0,Nat.zero_le _,rfl,?_,aI.refl,FrC.refl,c4,?_,?_⟩
  .rw [e0,<-h2];exact h1
  .rw [e0];exact h3
  .rw [e0];exact h5
 case round=>
  obtain ⟨i,hi,rfl,hls,hdr,hfr,k4,hown,hnd⟩:=hrel;by_cases hlt2:i<zs.length
  .obtain ⟨g,cap,he⟩:∃g cap,Value.slice va4 zs.length vc4=.slice (some ⟨g,0,none⟩) zs.length cap:=by
    rcases HL.out.2.2.1.2 with ⟨h1,h2⟩|⟨g,cap,cur,h1,-⟩
    .omega
    .exact ⟨g,cap,h1⟩
   cases he;have hiy:i<(yz i).length:=by rw [hylen];exact hlt2
   have eyi:(yz i)[i]=zs[i]:=by
    have:(yz i)[i]?=some zs[i]:=by
     rw [HY.out];simp only;rw [aR (by simp;omega)];simp;rw [Nat.min_eq_left (by omega)];simp [hlt2]
    rw [eL hiy] at this;exact oJ this
   have hown2:wr.ownsRow B 125 8 (.slice (some ⟨g,0,none⟩) (yz i).length vc4) (yz i).length (aV (yz i)):=by rw [hylen] at hown ⊢;exact hown
   have q7:=(kz hown2 i hiy).2.2.2.2.2.2.2;rw [eyi] at q7;have f7:=(mh.of_owns hown2).frozen (i * 8+7);have k4':wr.cell? ⟨k0,4,none⟩=some (.slice (some ⟨g,0,none⟩) (yz i).length vc4):=by rw [hylen];exact k4
   obtain ⟨hlo,hhi⟩:=hlf' i hlt2;have hwr:wrap64 (zs[i].1.left-u)=zs[i].1.left-u:=by unfold wrap64;omega
   have hnext:=hls.setLeft k4' rfl hown2 (HL.out.2.2.2.1 g rfl) hnd i hiy (zs[i].1.left-u);rw [eyi] at hnext;have eset:(yz i).set i (zs[i].1.again (zs[i].1.left-u),zs[i].2)=yz (i+1):=by
    rw [HY.out];simp only;rw [List.set_append_right _ _ (by simp;omega),tS hlt2,List.map_append,pA];congr 1;have e0:i-(List.map (Ex u) (List.take i zs)).length=0:=by simp;omega
    rw [e0,List.drop_eq_getElem_cons hlt2,List.set_cons_zero];simp [Ex]
   have HN:Hid (di A B (wr.setCell ⟨g,i * 8+7,none⟩ (.int .i64 (zs[i].1.left-u))) k0 {L with opened:=(yz (i+1)).map (·.1)}/\aI A B k0 w (wr.setCell ⟨g,i * 8+7,none⟩ (.int .i64 (zs[i].1.left-u)))/\FrC k0 w (wr.setCell ⟨g,i * 8+7,none⟩ (.int .i64 (zs[i].1.left-u)))/\(wr.setCell ⟨g,i * 8+7,none⟩ (.int .i64 (zs[i].1.left-u))).cell? ⟨k0,4,none⟩=some (.slice (some ⟨g,0,none⟩) zs.length vc4)/\(wr.setCell ⟨g,i * 8+7,none⟩ (.int .i64 (zs[i].1.left-u))).ownsRow B 125 8 (.slice (some ⟨g,0,none⟩) zs.length vc4) (yz (i+1)).length (aV (yz (i+1)))/\∀z∈yz (i+1),ai A 41 (wr.setCell ⟨g,i * 8+7,none⟩ (.int .i64 (zs[i].1.left-u))) z.2 z.1.f):=by
    rw [<-eset];obtain ⟨n1,n2,n3,n4⟩:=hnext;refine ⟨?_,hdr.trans n2,hfr.trans (FrC.open ⟨_,k4,rfl⟩ (by have:=(hown2.lt g rfl).1;have:=hls.low;omega)),?_,?_,n4⟩
    .rw [List.map_set];exact n1
    .rw [cB (w:=wr) (a:=⟨k0,4,none⟩) (bS _ _ _ _ (show k0≠g by have:=(hown2.lt g rfl).1;have:=hls.low;omega))];exact k4
    .rw [hylen] at n3;exact n3
   clear hls hdr hfr hown hnd hown2 hnext eset k4';go_wp2_with fail
   exact ⟨⟨i+1,by omega,by go_num,HN.out⟩,by simp [intOf];omega⟩
  .have:i=zs.length:=by omega
   subst this;have eyn:yz zs.length=zs.map (Ex u):=by rw [HY.out];simp
   have hDEL:=zQ B va4 vc4 (yz zs.length) wr (by rw [hylen] at hown ⊢;exact hown) (by rw [hylen];omega);rw [hylen] at hDEL;have HFR:Hid (FrC k0 w wr):=hfr;have HE:Hid (di A B wr k0 {L with opened:=(yz zs.length).map (·.1)}/\aI A B k0 w wr/\wr.ownsRow B 125 8 (.slice va4 zs.length vc4) (yz zs.length).length (aV (yz zs.length))/\(∀z∈yz zs.length,ai A 41 wr z.2 z.1.f)/\yz zs.length=zs.map (Ex u)):=⟨hls,hdr,hown,hnd,eyn⟩;have HC:Hid (∀w2,dj (Value.slice va4 zs.length vc4).ownBlock wr w2->w2.cell? ⟨k0,4,none⟩=some (.slice va4 zs.length vc4)/\w2.frozen? ⟨k0,4,none⟩=false):=fun w2 hl2=>by
    have e:w2.heap[k0]?=wr.heap[k0]?:=hl2.block k0 hls.lt (fun e=>by have:=(hown.lt k0 e).1;have:=hls.low;omega);exact ⟨(cB (a:=⟨k0,4,none⟩) e).trans k4,(fB (a:=⟨k0,4,none⟩) e).trans (hls.frozen 4)⟩
   clear hls hdr hfr hown hnd eyn;go_wp2_with (go_at_call 99;refine hDEL.mono ?_;clear hDEL;rintro e w2 ⟨v',rfl,ho',hvb,hl'⟩;obtain ⟨va',vc',rfl,-⟩:=ay ho';obtain ⟨d4,g4⟩:=HC.out w2 hl';have HD:Hid (_/\_/\_):=And.intro ho' (And.intro hvb hl');clear ho' hvb hl')
   go_end0;obtain ⟨h1,h2,h3,h4,h5⟩:=HE.out;obtain ⟨ho',hvb,hl'⟩:=HD.out;obtain ⟨r1,r2,r3⟩:=h1.reopen k4 h3 HL.out.2.2.2.1 ho' hvb hl' (fun z hz=>h4 z (List.mem_filter.1 hz).1);refine ⟨rfl,?_,h2.trans r2,HFR.out.trans r3⟩;have e:pY L u={L with opened:=((yz zs.length).filter gt).map (·.1)}:=by
    unfold pY;congr 1;rw [h5,HL.out.2.1,List.map_map,List.filter_map,List.filter_map,List.map_map];rfl
   rw [e];exact r1
end
theorem vz (k0:Nat)(p:Option Ww)(w:Wz)(c0:w.cell? ⟨k0,0,none⟩=some (.pointer p)):Calls Yq.prog 41 #[.pointer (some ⟨k0,0,none⟩)] w fun e w'=>e=.returned (.agg #[.pointer p])/\w'=w.alloc (.cells #[.pointer p] 56):=by
 have hlt:k0<w.heap.size:=bC w _ c0;go_enter (Yq.nq Tryz.func41),Tryz.ntmps41;go_wp2_with fail
 exact bodyPost_ret (v:=.agg #[.pointer p]) (by simp [results,Tryz.results41,go_sem]) rfl ⟨rfl,rfl⟩
theorem Cd (k0:Nat)(n:Int)(w:Wz)(c1:w.cell? ⟨k0,1,none⟩=some (.int .i64 n)):Calls Yq.prog 46 #[.pointer (some ⟨k0,0,none⟩)] w fun e w'=>e=.returned (.int .i64 n)/\w'=w:=by
 go_enter (Yq.nq Tryz.func46),Tryz.ntmps46;go_wp2_with fail
 go_ret;exact ⟨rfl,rfl⟩
theorem Cf (vs:Bool)(p d af:ByteArray)(w:Wz):(Instr.build 93 #[(0,.bool vs),(1,.string p),(2,.string d),(3,.string af)]).run Yq.prog w=.ok (.agg #[.bool vs,.string p,.string d,.string af]) w:=by kernel_rfl
theorem vA (o:OpD)(w:Wz):Calls Yq.prog 42 #[cP o] w fun e w'=>e=.returned (qV (o.kind==7) o.key o.delim o.past)/\Below w.heap.size w w':=by
 obtain ⟨kind,key,body,delim,past,n,src⟩:=o;have hb:=Cf;unfold cP qV;go_enter (Yq.nq Tryz.func42),Tryz.ntmps42;go_wp2_with fail
 exact bodyPost_ret (v:=.agg #[.bool (kind==7),.string key,.string delim,.string past]) (by simp [results,Tryz.results42,go_sem]) rfl ⟨rfl,((bR _ _).alloc (lR _) _).alloc (by simp) _⟩
theorem Cg (k0:Nat)(n u:Int)(w:Wz)(c3:w.cell? ⟨k0,3,none⟩=some (.int .u64 n))(f3:w.frozen? ⟨k0,3,none⟩=false):Calls Yq.prog 74 #[.pointer (some ⟨k0,0,none⟩),.int .i64 u] w fun e w'=>e=.returned (.tuple #[])/\w'=w.setCell ⟨k0,3,none⟩ (.int .u64 (IntKind.u64.wrap (n+u))):=by
 go_enter (Yq.nq Tryz.func74),Tryz.ntmps74;go_wp2_with fail
 go_end0;exact ⟨rfl,by congr 2;simp [IntKind.wrap,IntKind.bits,IntKind.signed]⟩
theorem Ch (k0:Nat)(a:Option Ww)(n c:Nat)(s:Int)(w:Wz)(_hn:n<=2199023255552)(c8:w.cell? ⟨k0,8,none⟩=some (.slice a n c)):Calls Yq.prog 73 #[.pointer (some ⟨k0,0,none⟩),.int .i64 s] w fun e w'=>e=.returned (.bool (decide (0<=s/\s<n)))/\w'=w:=by
 by_cases h1:0<=s
 .by_cases h2:s<n
  .have e:decide (0<=s/\s<n)=true:=by simp [h1,h2]
   rw [e];go_enter (Yq.nq Tryz.func73),Tryz.ntmps73;go_wp2_with fail
   go_ret;exact ⟨rfl,rfl⟩
  .have e:decide (0<=s/\s<n)=false:=by simp [h2]
   rw [e];go_enter (Yq.nq Tryz.func73),Tryz.ntmps73;go_wp2_with fail
   go_ret;exact ⟨by simp,rfl⟩
 .have e:decide (0<=s/\s<n)=false:=by simp [h1]
  rw [e];go_enter (Yq.nq Tryz.func73),Tryz.ntmps73;go_wp2_with fail
  go_ret;exact ⟨rfl,rfl⟩
structure aW (A:Nat->Prop)(B:Nat)(w:Wz)(k0:Nat)(st:St)(L:Lg):Prop where
 store:az A w k0 st
 ls:di A B w k0 L
 time:w.cell? ⟨k0,3,none⟩=some (.int .u64 L.tm)
structure fy (A:Nat->Prop)(B k0:Nat)(w w':Wz):Prop where
 os:w'.os=w.os
 size:w.heap.size<=w'.heap.size
 low:∀b,b<B->b<w.heap.size->b≠k0->w'.heap[b]?=w.heap[b]?
 tree:∀b,A b->b<w.heap.size->w'.heap[b]?=w.heap[b]?
 cells:∀j,6<j->w'.cell? ⟨k0,j,none⟩=w.cell? ⟨k0,j,none⟩
 fz:∀j,w'.frozen? ⟨k0,j,none⟩=w.frozen? ⟨k0,j,none⟩
section
variable {A A':Nat->Prop} {B k0:Nat} {w w' w'':Wz} {st:St} {L L':Lg}
theorem aI.weak (h:aI A B k0 w w'):fy A B k0 w w':=⟨h.os,h.size,h.low,h.tree,fun j hj=>h.cells j (.inr hj),h.fz⟩
theorem fy.trans (h:fy A B k0 w w')(k:fy A B k0 w' w''):fy A B k0 w w'':=
 ⟨k.os.trans h.os,lT h.size k.size,fun b h1 h2 h3=>(k.low b h1 (lL h2 h.size) h3).trans (h.low b h1 h2 h3),fun b h1 h2=>(k.tree b h1 (lL h2 h.size)).trans (h.tree b h1 h2),fun j hj=>(k.cells j hj).trans (h.cells j hj),fun j=>(k.fz j).trans (h.fz j)⟩
theorem az.desk (S:az A w k0 st)(hd:aI A B k0 w w')(hA:∀b,A b->A' b)(hk:¬A' k0):az A' w' k0 st:=by
 obtain ⟨p,c0,hN⟩:=S.tree;exact ⟨fun b hb e=>hk (e▸hb),⟨p,(hd.cells 0 (.inl (by omega))).trans c0,ai.keep (fun b hb hlt=>⟨hA b hb,hd.tree b hb hlt⟩) 41 _ _ hN⟩,(hd.cells 1 (.inl (by omega))).trans S.count,(hd.cells 2 (.inl (by omega))).trans S.last,fun j=>(hd.fz j).trans (S.frozen j)⟩
theorem aW.step (h:aW A B w k0 st L)(hd:aI A B k0 w w')(hA:∀b,A b->A' b)(hl:di A' B w' k0 L')(ht:L'.tm=L.tm):aW A' B w' k0 st L':=
 ⟨h.store.desk hd hA hl.avoid,hl,by rw [ht];exact (hd.cells 3 (.inl (by omega))).trans h.time⟩
theorem aW.setTime (h:aW A B w k0 st L)(m:Int):aW A B (w.setCell ⟨k0,3,none⟩ (.int .u64 m)) k0 st {L with tm:=m}/\fy A B k0 w (w.setCell ⟨k0,3,none⟩ (.int .u64 m)):=by
 have hne:∀b,b≠k0->(w.setCell ⟨k0,3,none⟩ (.int .u64 m)).heap[b]?=w.heap[b]?:=fun b hb=>bS _ _ _ _ hb
 have hc:∀j,j≠3->(w.setCell ⟨k0,3,none⟩ (.int .u64 m)).cell? ⟨k0,j,none⟩=w.cell? ⟨k0,j,none⟩:=fun j hj=>cO _ _ _ _ (bE (by omega))
 have hf:∀j,(w.setCell ⟨k0,3,none⟩ (.int .u64 m)).frozen? ⟨k0,j,none⟩=w.frozen? ⟨k0,j,none⟩:=fun j=>World.frozen?_setCell ..
 have hA:∀b,A b->(w.setCell ⟨k0,3,none⟩ (.int .u64 m)).heap[b]?=w.heap[b]?:=fun b hb=>hne b (fun e=>h.ls.avoid (e▸hb))
 have c3:=h.time;obtain ⟨p,c0,hN⟩:=h.store.tree;obtain ⟨v,c4,zs,z1,z2,z3,z4⟩:=h.ls.opened;obtain ⟨mv,c6,hm⟩:=h.ls.told;have hlow:=h.ls.low;refine ⟨⟨⟨h.store.avoid,⟨p,(hc 0 (by omega)).trans c0,ai.keep (fun b hb _=>⟨hb,hA b hb⟩) 41 _ _ hN⟩,(hc 1 (by omega)).trans h.store.count,(hc 2 (by omega)).trans h.store.last,fun j=>(hf j).trans (h.store.frozen j)⟩,⟨⟨v,(hc 4 (by omega)).trans c4,zs,z1,ed z2 fun g hg=>hne g (by have:=(z2.lt g hg).1;omega),z3,fun z hz=>ai.keep (fun b hb _=>⟨hb,hA b hb⟩) 41 _ _ (z4 z hz)⟩,(hc 5 (by omega)).trans h.ls.begun,⟨mv,(hc 6 (by omega)).trans c6,?_⟩,fun j=>(hf j).trans (h.ls.frozen j),h.ls.avoid,h.ls.low,fun b hb=>by simpa using h.ls.inn b hb⟩,cS _ _ _ (by rw [c3];rfl)⟩,⟨rfl,by simp,fun b _ _ hb=>hne b hb,fun b hb _=>hA b hb,fun j hj=>hc j (by omega),hf⟩⟩;rcases hm with hm|⟨m',es,clock,m1,m2,m3⟩
 .exact .inl hm
 .exact .inr ⟨m',es,clock,m1,(hne m' (by have:=m3.2.2;omega)).trans m2,m3⟩
def ik (L:Lg)(u:Int):Lg×Int:=if u<0\/1000<u then (L,11) else (pY {L with tm:=IntKind.u64.wrap (L.tm+u)} u,0)
theorem Eg (w:Wz)(h:aW A B w k0 st L)(hop:L.opened.length<=3)(u:Int)(hlf:∀x∈L.opened,0<=x.left/\x.left<=10):
  Calls Yq.prog 45 #[.pointer (some ⟨k0,0,none⟩),.int .i64 u] w fun e w'=>e=.returned (.int .i64 (ik L u).2)/\aW A B w' k0 st (ik L u).1/\fy A B k0 w w'/\FrC k0 w w':=by
 have HD:Hid (aW A B w k0 st L):=h;have hrefl:fy A B k0 w w:=(aI.refl (A:=A) (B:=B) (k0:=k0) (w:=w)).weak;by_cases hu:u<0\/1000<u
 .have e:ik L u=(L,11):=by rw [ik,if_pos hu]
  rw [e];clear h;rcases hu with h1|h2
  .go_enter (Yq.nq Tryz.func45),Tryz.ntmps45;go_wp2_with fail
   go_ret;exact ⟨rfl,HD.out,hrefl,FrC.refl⟩
  .have h1:¬u<0:=by omega
   go_enter (Yq.nq Tryz.func45),Tryz.ntmps45;go_wp2_with fail
   go_ret;exact ⟨rfl,HD.out,hrefl,FrC.refl⟩
 .have e:ik L u=(pY {L with tm:=IntKind.u64.wrap (L.tm+u)} u,0):=by rw [ik,if_neg hu]
  rw [e];have h1:¬u<0:=by omega
  have h2:¬1000<u:=by omega
  have c3:=h.time;have HS:=Cg k0 L.tm u w c3 (h.ls.frozen 3);have HP:Hid (∀m,Calls Yq.prog 75 #[.pointer (some ⟨k0,4,none⟩),.int .i64 u] (w.setCell ⟨k0,3,none⟩ (.int .u64 m)) fun e w'=>e=.returned (.tuple #[])/\aW A B w' k0 st (pY {L with tm:=m} u)/\fy A B k0 w w'/\FrC k0 w w'):=fun m=>by
   obtain ⟨d1,d2⟩:=HD.out.setTime m;refine (Ef _ d1.ls hop u (by omega) hlf).mono ?_;rintro e w' ⟨rfl,p1,p2,p3⟩;exact ⟨rfl,d1.step p2 (fun _ h=>h) p1 rfl,d2.trans p2.weak,(FrC.set 3 _ (by omega)).trans p3⟩
  clear h c3;go_enter (Yq.nq Tryz.func45),Tryz.ntmps45;go_wp2_with (first
   |(go_at_call 74;refine HS.mono ?_;clear HS;rintro e w1 ⟨rfl,rfl⟩)
   |(go_at_call 75;refine (HP.out _).mono ?_;clear HP;rintro e w2 ⟨rfl,p1,p2,p3⟩))
  go_ret;exact ⟨rfl,p1,p2,p3⟩
end
def iP (x:LsA):ItD:=⟨0,⟨#[]⟩,x.left⟩
theorem um (v:Int)(w:Wz):(Instr.build 41 #[(2,.int .i64 v)]).run Yq.prog w=.ok (.agg #[.int .i64 0,.string ⟨#[]⟩,.int .i64 v]) w:=by kernel_rfl
section
variable {A:Nat->Prop} {B k0:Nat} {L:Lg}
theorem zR (w:Wz)(h:di A B w k0 L)(hop:L.opened.length<=3):
  Calls Yq.prog 47 #[.pointer (some ⟨k0,4,none⟩)] w fun e w'=>∃sv,e=.returned sv/\w'.ownsRow w.heap.size 41 3 sv (L.opened.map iP).length (ax (L.opened.map iP))/\Below w.heap.size w w':=by
 obtain ⟨v4,c4,zs,z1,z2,z3,z4⟩:=h.opened;obtain ⟨va4,vc4,rfl,-⟩:=ay z2;have hlz:L.opened.length=zs.length:=by rw [z1];simp
 have hlt:=h.lt;obtain ⟨its,hits⟩:∃its:Nat->List ItD,its=fun i=>((zs.map (·.1)).map iP).take i:=⟨_,rfl⟩
 have HI:Hid (its=fun i=>((zs.map (·.1)).map iP).take i):=hits;have hil:∀i,i<=zs.length->(its i).length=i:=fun i hi=>by rw [hits];simp;omega
 have HEND:Hid ((L.opened.map iP)=its zs.length):=by
  show L.opened.map iP=its zs.length;rw [hits,z1];exact (tO (by simp)).symm
 have hzl:zs.length<=3:=by omega
 rw [HEND.out];have HZ:Hid (w.ownsRow B 125 8 (.slice va4 zs.length vc4) zs.length (aV zs)):=z2;obtain ⟨i0,hi0,hz0,hz1,hz2⟩:=info_parts Yq.infoItem;have hbi:=um;clear h z1 z2 z3 z4 hits;go_enter (Yq.nq Tryz.func47),Tryz.ntmps47;go_wp2_with fail
 go_loopw [3,5,11] (fun s3 _ s11 wr=>∃i:Nat,i<=zs.length/\s11=.int .i64 i/\wr.ownsRow w.heap.size 41 3 s3 i (ax (its i))/\Below w.heap.size w wr) (fun _ _ s11 _=>zs.length-(intOf s11).toNat)
 case atStart=>exact ⟨0,Nat.zero_le _,rfl,by rw [HI.out];exact ⟨rfl,.inl ⟨rfl,rfl⟩⟩,bR _ _⟩
 case round=>
  obtain ⟨i,hi,rfl,hown,hb⟩:=hrel;obtain ⟨so,sc,rfl,-⟩:=ay hown;by_cases hlt2:i<zs.length
  .obtain ⟨g,cap,he⟩:∃g cap,Value.slice va4 zs.length vc4=.slice (some ⟨g,0,none⟩) zs.length cap:=by
    rcases HZ.out.2 with ⟨h1,h2⟩|⟨g,cap,cur,h1,-⟩
    .omega
    .exact ⟨g,cap,h1⟩
   cases he;obtain ⟨q0,q1,q2,q3,q4,q5,q6,q7⟩:=kz HZ.out i hlt2;replace q0:=ak hb q0;replace q1:=ak hb q1;replace q2:=ak hb q2;replace q3:=ak hb q3;replace q4:=ak hb q4;replace q5:=ak hb q5;replace q6:=ak hb q6;replace q7:=ak hb q7;have HS:Hid (its (i+1)=its i++[⟨0,⟨#[]⟩,zs[i].1.left⟩]):=by
    show its (i+1)=its i++[⟨0,⟨#[]⟩,zs[i].1.left⟩];rw [HI.out];simp only;rw [tS (by simpa using hlt2)];simp [iP]
   obtain ⟨O1,hO1⟩:∃O1,O1=Obj.cells #[.int .i64 zs[i].1.num,.pointer zs[i].2,.bool zs[i].1.q.vs,.string zs[i].1.q.p,.string zs[i].1.q.d,.string zs[i].1.q.af,.int .i64 zs[i].1.size,.int .i64 zs[i].1.left] 125:=⟨_,rfl⟩;obtain ⟨O2,hO2⟩:∃O2,O2=Obj.cells #[.int .i64 0,.string ⟨#[]⟩,.int .i64 zs[i].1.left] 41:=⟨_,rfl⟩;have HOW:Hid (((wr.alloc O1).alloc O2).ownsRow w.heap.size 41 3 (.slice so i sc) i (ax (its i))/\Below w.heap.size w wr/\∀k,(Value.slice so i sc).ownBlock=some k->w.heap.size<=k):=⟨(hown.alloc _).alloc _,hb,fun k e=>(hown.lt k e).1⟩;have HN:Hid (∀j u,[Value.int .i64 0,.string ⟨#[]⟩,.int .i64 zs[i].1.left][j]?=some u->((wr.alloc O1).alloc O2).cell? ((⟨wr.heap.size+1,0,none⟩:Ww).add j)=some u):=by
    rw [hO2];have:=wZ (wr.alloc O1) (.int .i64 0) (.string ⟨#[]⟩) (.int .i64 zs[i].1.left) 41
    rwa [World.size_alloc] at this
   have hbs:=hb.size;rw [hO1,hO2] at HOW HN;clear hown hb;go_wp2_with (at_builtin;refine wpList_append_own _ rfl _ _ 34 rfl w.heap.size 41 i0 _ 3 32 (Yq.u Tryz.underlying34) hi0 hz0 hz1 hz2 rfl (by decide) _ _ _ rfl HOW.out.1 ⟨wr.heap.size+1,0,none⟩ 1 1 [.int .i64 0,.string ⟨#[]⟩,.int .i64 zs[i].1.left] ?qa rfl ?qb ?qc ?qd ?qe ?qf ?_)
   case qa=>rfl
   case qb=>exact HN.out
   case qc=>simp [Value.oneCell']
   case qd=>simp only [maxLen];omega
   case qe=>omega
   case qf=>simp;omega
   intro v' w3 ho hg _;obtain ⟨so',sc',rfl,-⟩:=ay ho;have HE:Hid (w3.ownsRow w.heap.size 41 3 (.slice so' (i+1) sc') (i+1) (ax (its i)++[.int .i64 0,.string ⟨#[]⟩,.int .i64 zs[i].1.left])/\Below w.heap.size w w3):=
    ⟨ho,((HOW.out.2.1.alloc HOW.out.2.1.size _).alloc (by have:=HOW.out.2.1.size;simp;omega) _).grown hg (by simp;omega) HOW.out.2.2⟩
   clear ho hg;go_wp2_with fail
   refine ⟨⟨i+1,by omega,by go_num,?_,HE.out.2⟩,by simp [intOf];omega⟩;rw [HS.out,kZ];exact HE.out.1
  .have:i=zs.length:=by omega
   subst this;go_wp2_with fail
   go_ret;refine ⟨_,rfl,?_,hb⟩;rw [hil _ (lR _)];exact hown
end
section
variable {A:Nat->Prop} {B k0:Nat} {L:Lg}
theorem zS (w:Wz)(h:di A B w k0 L)(tok:ByteArray)(hf:ec tok L.told=none):
  Calls Yq.prog 43 #[.pointer (some ⟨k0,4,none⟩),.string tok] w fun e w'=>e=.returned (.tuple #[.agg #[.slice none 0 0,.string ⟨#[]⟩],.int .i64 9])/\aQ A B k0 w L [] (.slice none 0 0) w':=by
 obtain ⟨mv,c6,hm⟩:=h.told;have hlt:=h.lt;have hlk:=kw (hm.left (aj.refl.alloc (.cells #[.slice none 0 0,.string ⟨#[]⟩] 88))) tok;rw [hf] at hlk;simp only [Option.getD_none,Option.isSome_none,plV] at hlk;have HL:Hid (di A B w k0 L):=h;have hbp:=eH;clear h hm;go_enter (Yq.nq Tryz.func43),Tryz.ntmps43;go_wp2_with fail
 refine bodyPost_ret (v:=.tuple #[.agg #[.slice none 0 0,.string ⟨#[]⟩],.int .i64 9]) (by simp [results,Tryz.results43,go_sem]) rfl ⟨rfl,aQ.same HL.out ?_⟩;exact (aj.refl.alloc _).alloc _
theorem zT (w:Wz)(h:di A B w k0 L)(tok:ByteArray)(n pg:Int)(hop:L.opened.length<=3)(hf:ec tok L.told=some (n,pg))(hn:kC n L.opened=none):
  Calls Yq.prog 43 #[.pointer (some ⟨k0,4,none⟩),.string tok] w fun e w'=>e=.returned (.tuple #[.agg #[.slice none 0 0,.string ⟨#[]⟩],.int .i64 10])/\aQ A B k0 w L [] (.slice none 0 0) w':=by
 obtain ⟨mv,c6,hm⟩:=h.told;obtain ⟨v4,c4,zs,z1,z2,z3,z4⟩:=h.opened;obtain ⟨va4,vc4,rfl,-⟩:=ay z2;have hlz:L.opened.length=zs.length:=by rw [z1];simp
 have hlt:=h.lt;have hk1:k0<w.heap.size+1:=by omega
 have hlk:=kw (hm.left (aj.refl.alloc (.cells #[.slice none 0 0,.string ⟨#[]⟩] 88))) tok;rw [hf] at hlk;simp only [Option.getD_some,Option.isSome_some,plV] at hlk;obtain ⟨W,hW⟩:∃W,W=(w.alloc (.cells #[.slice none 0 0,.string ⟨#[]⟩] 88)).alloc (.cells #[.int .i64 n,.int .i64 pg] 129):=⟨_,rfl⟩;have hLW:aj w W:=by rw [hW];exact (aj.refl.alloc _).alloc _
 have hIX:=vw B va4 vc4 zs (w.heap.size+1) n W (bc z2 fun g _ hg=>hLW.block g hg) (by omega) (by
  rw [hW];have:=cA (w:=w.alloc (.cells #[.slice none 0 0,.string ⟨#[]⟩] 88)) #[.int .i64 n,.int .i64 pg] 129 (w.heap.size+1) 0 (by simp);rw [this];rfl)
 rw [<-z1,hn] at hIX;simp only [Option.map_none,Option.getD_none] at hIX;have HL:Hid (di A B w k0 L/\aj w W):=⟨h,hLW⟩;have HF:Hid (∀w1,Below W.heap.size W w1->w1.cell? ⟨w.heap.size,0,none⟩=some (.slice none 0 0)/\w1.cell? ⟨w.heap.size,1,none⟩=some (.string ⟨#[]⟩)/\w1.frozen? ⟨w.heap.size,0,none⟩=false/\w1.frozen? ⟨w.heap.size,1,none⟩=false):=fun w1 hb=>by
  have e:w1.heap[w.heap.size]?=some (.cells #[.slice none 0 0,.string ⟨#[]⟩] 88):=by
   rw [hb.block _ (by rw [hW];simp;omega),hW,bA _ _ _ (by simp)];exact aN _ _
  exact ⟨by simp [World.cell?,e],by simp [World.cell?,e],by simp [World.frozen?,e],by simp [World.frozen?,e]⟩
 have HWW:Hid (W=(w.alloc (.cells #[.slice none 0 0,.string ⟨#[]⟩] 88)).alloc (.cells #[.int .i64 n,.int .i64 pg] 129)):=hW;have hbp:=eH;have hWs:W.heap.size=w.heap.size+2:=by rw [hW];simp
 clear h hm z1 z2 z3 z4 hLW;subst hW;go_enter (Yq.nq Tryz.func43),Tryz.ntmps43;go_wp2_with (go_at_call 71;refine hIX.mono ?_;clear hIX;rintro e w1 ⟨rfl,hb1⟩;obtain ⟨s0,s1,u0,u1⟩:=HF.out w1 hb1)
 refine bodyPost_ret (v:=.tuple #[.agg #[.slice none 0 0,.string ⟨#[]⟩],.int .i64 10]) (by simp [results,Tryz.results43,go_sem,s0,s1]) rfl ⟨rfl,aQ.same HL.out.1 ?_⟩;exact ((HL.out.2.trans (.below hb1)).set (lR _) _ _).set (lR _) _ _
end
theorem cn.set {w:Wz}{b j:Nat}{x:Wq}(h:cn w b):cn (w.setCell ⟨b,j,none⟩ x) b:=by
 obtain ⟨ob,e1,e2⟩:=h;cases ob with
 |cells xs e z=>
  obtain ⟨g1,g2⟩:=eS e1;refine ⟨.cells (xs.setIfInBounds j x) e z,?_,rfl⟩;show (w.heap.modify b _)[b]?=_;rw [eG (by rw [Array.size_modify];exact g1),Array.getElem_modify_self,g2];rfl
 |_=>cases e2
theorem cn.of_block {w w':Wz}{b:Nat}(h:cn w b)(e:w'.heap[b]?=w.heap[b]?):cn w' b:=by
 obtain ⟨o,h1,h2⟩:=h;exact ⟨o,e.trans h1,h2⟩
section
variable {A:Nat->Prop} {B k0:Nat} {L L2:Lg} {w X W7 w8:Wz} {sv:Wq} {pg:List ItD} {r0:Nat}
def iB (A:Nat->Prop)(sv:Wq):Nat->Prop:=fun b=>A b\/sv.ownBlock=some b
theorem ny (h:di A B X k0 L)(hl:aj X W7)(hrow:W7.ownsRow X.heap.size 41 3 sv pg.length (ax pg)):di (iB A sv) B W7 k0 L:=
 h.more hl (fun _ h=>.inl h) (fun b hb=>hb.imp id fun e=>(hrow.lt b e).1) (fun b hb=>by
  rcases hb with hb|hb
  .exact lL (h.inn b hb) hl.size
  .exact (hrow.lt b hb).2)
theorem zU (hfx:FrC k0 w X)(hk8:dq k0 W7 w8)(hw:∀b,A b->b<w.heap.size)(hd:aI A B k0 w X)(hl:aj X W7)(hrow:W7.ownsRow X.heap.size 41 3 sv pg.length (ax pg))(h8:di (iB A sv) B w8 k0 L2)(hd8:aI (iB A sv) B k0 W7 w8)(k4:w8.cell? ⟨k0,4,none⟩=X.cell? ⟨k0,4,none⟩)(hr1:w.heap.size<=r0)(hr2:r0<X.heap.size)(hB:B<=w.heap.size)(hv:∀v g,X.cell? ⟨k0,4,none⟩=some v->v.ownBlock=some g->g≠r0)(hc:cn w8 r0)(y0 y1:Wq):
  aQ A B k0 w L2 pg sv ((w8.setCell ⟨r0,0,none⟩ y0).setCell ⟨r0,1,none⟩ y1):=by
 have hlow:=h8.low;have hnA:¬iB A sv r0:=fun ha=>by
  rcases ha with ha|ha
  .have:=hw _ ha;omega
  .have:=(hrow.lt _ ha).1;omega
 have hk:r0≠k0:=by omega
 have h9:=h8.other (j:=0) (x:=y0) hk hnA hc (fun v g e=>hv v g (k4.symm.trans e));have hk9:(w8.setCell ⟨r0,0,none⟩ y0).cell? ⟨k0,4,none⟩=w8.cell? ⟨k0,4,none⟩:=cB (a:=⟨k0,4,none⟩) (bS _ _ _ _ (show k0≠r0 by omega));have h10:=h9.other (j:=1) (x:=y1) hk hnA hc.set (fun v g e=>hv v g (k4.symm.trans (hk9.symm.trans e)));have hlt:k0<X.heap.size:=by have:=hd.size;omega
 have hdw:aI (iB A sv) B k0 W7 ((w8.setCell ⟨r0,0,none⟩ y0).setCell ⟨r0,1,none⟩ y1):=(hd8.trans (aI.other hk hnA (by omega))).trans (aI.other hk hnA (by omega));refine ⟨iB A sv,fun _ h=>.inl h,fun b hb=>?_,h10,(hd.trans (aI.left hlt hl)).trans (hdw.mono fun _ h=>.inl h),?_,?_⟩
 .rcases hb with hb|hb
  .exact .inl hb
  .have:=(hrow.lt b hb).1;have:=hd.size;exact .inr (by omega)
 .exact ky (ed hrow fun g hg=>hdw.tree g (.inr hg) (hrow.lt g hg).2) (fun g hg=>.inr hg)
 .have e7:W7.cell? ⟨k0,4,none⟩=X.cell? ⟨k0,4,none⟩:=cB (a:=⟨k0,4,none⟩) (hl.block k0 hlt);have q:=(hfx.trans (FrC.left hlt hl)).trans (FrC.keepC hk8 (k4.trans e7.symm));exact (q.fresh (by omega) hk).fresh (by omega) hk
theorem Ci (hfx:FrC k0 w X)(h:di A B X k0 L)(hw:∀b,A b->b<w.heap.size)(hd:aI A B k0 w X)(hl:aj X W7)(hrow:W7.ownsRow X.heap.size 41 3 sv pg.length (ax pg))(hr1:w.heap.size<=r0)(hr2:r0<X.heap.size)(hB:B<=w.heap.size)(hv:∀v g,X.cell? ⟨k0,4,none⟩=some v->v.ownBlock=some g->g≠r0)(hc:cn X r0)(y0 y1:Wq):
  aQ A B k0 w L pg sv ((W7.setCell ⟨r0,0,none⟩ y0).setCell ⟨r0,1,none⟩ y1):=by
 have h7:=ny h hl hrow;exact zU hfx (dq.refl _ _) hw hd hl hrow h7 aI.refl (cB (a:=⟨k0,4,none⟩) (hl.block k0 h.lt)) hr1 hr2 hB hv (hc.of_block (hl.block r0 hr2)) y0 y1
theorem Cj (hfx:FrC k0 w X)(h:di A B X k0 L)(hw:∀b,A b->b<w.heap.size)(hd:aI A B k0 w X)(hl:aj X W7)(hrow:W7.ownsRow X.heap.size 41 3 sv pg.length (ax pg))(hr1:w.heap.size<=r0)(hr2:r0<X.heap.size)(hB:B<=w.heap.size)(hv:∀v g,X.cell? ⟨k0,4,none⟩=some v->v.ownBlock=some g->g≠r0)(hc:cn X r0)(tk:ByteArray)(pl:Int×Int):
  Calls Yq.prog 70 #[.pointer (some ⟨k0,4,none⟩),.string tk,plV pl] W7 fun e w8=>e=.returned (.tuple #[])/\dq k0 W7 w8/\∀y0 y1,aQ A B k0 w {L with told:=ln tk pl L.told} pg sv ((w8.setCell ⟨r0,0,none⟩ y0).setCell ⟨r0,1,none⟩ y1):=by
 have h7:=ny h hl hrow;have hlow:=h.low;have:=hd.size;have:=hl.size;refine (zO W7 h7 (by omega) tk pl).mono ?_;rintro e w8 ⟨rfl,h8,hd8,hk8,hj8⟩;refine ⟨rfl,hk8,fun y0 y1=>?_⟩;have hc7:=hc.of_block (hl.block r0 hr2);have hc8:cn w8 r0:=by
  obtain ⟨o,e1,e2⟩:=hc7;exact ⟨o,hk8.2.2 r0 o e1 e2 (by omega),e2⟩
 exact zU hfx hk8 hw hd hl hrow h8 hd8 ((hj8 4 (by omega)).trans (cB (a:=⟨k0,4,none⟩) (hl.block k0 h.lt))) hr1 hr2 hB hv hc8 y0 y1
end
theorem bX {P:Program}{ops:Array Oper}{o:Oper}{a:Act}{w:Wz}{K:Act->Wz->Prop}{Q:Exit->Act->Wz->Prop}{E:Prop}
  (hg:o.guard=none) (f:FuncId) (xs:Array Operand) (ts:Array TypeId) (hop:o.op=Op.call {callee:=Callee.value (.func f),args:=xs,argTypes:=ts})
  (args:Array Wq) (hx:xs.map a.eval=args) (henter:(callFunc f args).run P w=.ok (.enter f args) w)
  (R:Wq->Wz->Prop) (S:List PanicEntry->Wz->Prop) (hC:Calls P f args w fun e w'=>(∃v,e=.returned v/\R v w')\/∃ch,e=.panicked ch/\S ch w') (hS:∀ch w',S ch w'->Q (.panic ch) a w') (hK:∀v w',R v w'->K (a.put o.dst v) w'):
  if Region.wanted o (yielded ops a.tmps)=true then Oper.wp P o a w K Q else E:=by
 have hw:Region.wanted o (yielded ops a.tmps)=true:=by simp [Region.wanted,hg]
 rw [if_pos hw];subst hx;unfold Oper.wp;have e:(execOp a.eval o).run P w=.ok (.enter f (xs.map a.eval)) w:=by
  have e1:execOp a.eval o=(do let d <-resolve a.eval {callee:=Callee.value (.func f),args:=xs,argTypes:=ts} o.type;invoke d.target d.args):=by simp only [execOp,hop]
  rw [e1];simpa [resolve,Deferred.ofValue,Act.eval,invoke] using henter
 rw [e,Oper.upon_enter];refine hC.mono ?_;rintro e w' (⟨v,rfl,hr⟩|⟨ch,rfl,hs⟩)
 .exact hK v w' hr
 .exact hS ch w' hs
end
