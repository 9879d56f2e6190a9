/- A part. -/
import Derived.Test.YtnapepbdohidgaaGreatDoorQT13
set_option maxHeartbeats 4000000
set_option maxRecDepth 100000
open Go renaming World->Wz,Value->Wq,Addr->Ww
namespace Go.Proofs.Qw
open Tryz
section
open Go.Conc Go.ConcX Go.ConcX.Gen Go.RowKit
def lX (z:LsA×Option Ww):Bool:=decide (z.1.left<=0)
def im (z:LsA×Option Ww):Bool:=!lX z
structure du (g:Option Nat)(w w':Wz):Prop where
 os:w'.os=w.os
 size:w.heap.size<=w'.heap.size
 block:∀b,b<w.heap.size->g≠some b->w'.heap[b]?=w.heap[b]?
theorem du.refl {g:Option Nat}{w:Wz}:du g w w:=⟨rfl,lR _,fun _ _ _=>rfl⟩
theorem du.trans {g:Option Nat}{w w' w'':Wz}(h:du g w w')(k:du g w' w''):du g w w'':=⟨k.os.trans h.os,lT h.size k.size,fun b hb hg=>(k.block b (lL hb h.size) hg).trans (h.block b hb hg)⟩
theorem du.below {g:Option Nat}{w w':Wz}(h:Below w.heap.size w w'):du g w w':=⟨h.os,h.size,fun b hb _=>h.block b hb⟩
theorem du.set {w w':Wz}{g j:Nat}{v:Wq}(h:du (some g) w w'):du (some g) w (w'.setCell ⟨g,j,none⟩ v):=
 ⟨h.os,by have:=h.size;simpa using this,fun b hb hg=>(bS _ _ _ _ (fun e=>hg (by rw [show b=g from e]))).trans (h.block b hb hg)⟩
theorem du.set8 {w:Wz}{g i:Nat}{l:Lst}:du (some g) w (set8 w g i l):=
 du.set (du.set (du.set (du.set (du.set (du.set (du.set (du.set du.refl)))))))
theorem DO (w:Wz)(g:Nat)(a cs:Array Wq)(T:TypeId)(hg:w.heap[g]?=some (.cells a T (0,0))):(w.setRow g cs).heap[g]?=some (.cells cs T (0,0)):=setRow_heap w g a cs T _ hg
theorem du.setRow {w:Wz}{g:Nat}{a cs:Array Wq}{T:TypeId}(_hg:w.heap[g]?=some (.cells a T (0,0))):du (some g) w (w.setRow g cs):=by
 refine ⟨rfl,?_,fun b hb hne=>?_⟩
 .simp [World.setRow]
 .have:b≠g:=fun e=>hne (by rw [e])
  simp [World.setRow,Array.getElem?_modify,this.symm]
theorem nh.cut {B:Nat}{w:Wz}{g cap i:Nat}{c:List (LsA×Option Ww)}{b a:Array Wq}(h:nh B w g cap c)(hg:w.heap[g]?=some (.cells b 125 (0,0)))(hs:a.size=b.size)(ht:a.toList.take (i * 8)=b.toList.take (i * 8))(hi:i<=c.length):nh B (w.setRow g a) g cap (c.take i):=by
 have hr:=DO w g b a 125 hg;obtain ⟨c2,h1,h2⟩:=h.obj;rw [hg] at h1;cases h1;refine ⟨h.base,⟨a,hr,by omega⟩,by rw [tL];have:=h.le;omega,h.max,fun k hk j d=>?_⟩;have hk':k<i:=by rw [tL] at hk;omega
 have h3:=h.cells k (by omega) j d;rw [cell_of_row w g _ b 125 (0,0) hg] at h3;rw [cell_of_row _ g _ a 125 (0,0) hr,List.getElem_take,<-h3];have h4:=congrArg (fun l:List Wq=>l[k * 8+j]?) ht;simp only [List.getElem?_take] at h4;have hlt:k * 8+j<i * 8:=by omega
 simpa [hlt] using h4
theorem FZ (w:Wz):(zeroValue 125).run Yq.prog w=.ok (.agg #[.int .i64 0,.pointer none,.bool false,.string ⟨#[]⟩,.string ⟨#[]⟩,.string ⟨#[]⟩,.int .i64 0,.int .i64 0]) w:=by kernel_rfl
theorem DP (w:Wz)(g o n:Nat)(b:Array Wq)(hg:w.heap[g]?=some (.cells b 125 (0,0)))(hn:0<n)(e:o+n * 8<=b.size):
  ∃a:Array Wq,(∀ty c,(Builtin.clear_ #[60] ty #[.slice (some ⟨g,o,none⟩) n c]).run Yq.prog w=.ok (.tuple #[]) (w.setRow g a))/\a.size=b.size/\a.toList.take o=b.toList.take o:=by
 have d:∀v∈(Value.agg #[.int .i64 0,.pointer none,.bool false,.string ⟨#[]⟩,.string ⟨#[]⟩,.string ⟨#[]⟩,.int .i64 0,.int .i64 0]).cells.toList,v.oneCell'=true:=by
  intro v hv;simp [Value.cells] at hv;rcases hv with rfl|rfl|rfl|rfl|rfl|rfl<;>rfl
 obtain ⟨a,h1,h2,h3⟩:=vP (P:=Yq.prog) w 60 125 0 _ (Yq.u underlying60) FZ d g o n 0 b 125 hg hn (by simpa [Value.cells] using e);have h0:∀ty f c c',(Builtin.clear_ #[60] ty #[.slice (some ⟨g,o,none⟩) n c]).run Yq.prog w=(Builtin.clear_ #[60] f #[.slice (some ⟨g,o,none⟩) n c']).run Yq.prog w:=fun ty f c c'=>by
  obtain ⟨m,rfl⟩:∃m,n=m+1:=⟨n-1,by omega⟩;simp [Builtin.clear_,run_underlying (Yq.u underlying60)]
 exact ⟨a,fun ty c=>(h0 ty 0 c 0).trans h1,h2,h3⟩
theorem tV (l:Lst)(w:Wz):Calls Yq.prog 100 #[lV l] w fun e w'=>e=.returned (.bool (decide (l.left<=0)))/\Below w.heap.size w w':=by
 unfold lV aE;go_enter (Yq.nq func100),ntmps100;go_wp2_with fail
 go_ret;exact ⟨rfl,(bR _ _).alloc (lR _) _⟩
theorem DQ (B:Nat)(c:Option Ww)(f:Nat)(zs:List (LsA×Option Ww))(w:Wz)(hz:w.ownsRow B 125 8 (.slice c zs.length f) zs.length (aT zs))(hl:zs.length<=3):
  Calls Yq.prog 71 #[.slice c zs.length f,.func (.func 100) #[] #[]] w fun e w'=>e=.returned (.int .i64 (((zs.findIdx? lX).map fun (i:Nat)=>(i:Int)).getD (-1)))/\Below w.heap.size w w':=by
 have HZ:Hid (w.ownsRow B 125 8 (.slice c zs.length f) zs.length (aT zs)):=hz;obtain ⟨R,k⟩:∃R:Int,R=((zs.findIdx? lX).map fun (i:Nat)=>(i:Int)).getD (-1):=⟨_,rfl⟩;have HR:Hid (R=((zs.findIdx? lX).map fun (i:Nat)=>(i:Int)).getD (-1)):=k;rw [<-k];clear hz k;go_enter (Yq.nq func71),ntmps71;go_wp2_with fail
 go_loopw [5,8] (fun _ s8 wr=>∃i:Nat,i<=zs.length/\s8=.int .i64 i/\(∀j (b:j<zs.length),j<i->lX zs[j]=false)/\Below w.heap.size w wr) (fun _ s8 _=>zs.length-(intOf s8).toNat)
 case atStart=>exact ⟨0,Nat.zero_le _,rfl,fun _ _ h=>absurd h (by omega),bR _ _⟩
 case round=>
  obtain ⟨i,hi,rfl,hno,hb⟩:=hrel;by_cases hlt:i<zs.length
  .obtain ⟨g,cap,he⟩:∃g cap,Value.slice c zs.length f=.slice (some ⟨g,0,none⟩) zs.length cap:=by
    rcases HZ.out.2 with ⟨h1,h2⟩|⟨g,cap,cur,h1,-⟩
    .omega
    .exact ⟨g,cap,h1⟩
   cases he;obtain ⟨q0,q1,q2,q3,q4,q5,q6,q7⟩:=lU HZ.out i hlt;replace q0:=aj hb q0;replace q1:=aj hb q1;replace q2:=aj hb q2;replace q3:=aj hb q3;replace q4:=aj hb q4;replace q5:=aj hb q5;replace q6:=aj hb q6;replace q7:=aj hb q7;have HF:Calls Yq.prog 100 #[.agg #[.int .i64 zs[i].1.num,.pointer zs[i].2,.bool zs[i].1.q.vs,.string zs[i].1.q.p,.string zs[i].1.q.d,.string zs[i].1.q.af,.int .i64 zs[i].1.size,.int .i64 zs[i].1.left]] wr fun e w'=>e=.returned (.bool (lX zs[i]))/\Below wr.heap.size wr w':=tV (zs[i].1.lst zs[i].2) wr
   have a:Hid ((∀j (b:j<zs.length),j<i->lX zs[j]=false)/\Below w.heap.size w wr):=⟨hno,hb⟩;clear hno hb;cases hb2:lX zs[i] with
   |true=>
    rw [hb2] at HF;have HE:Hid (R=(i:Int)):=by
     show R=(i:Int);have:zs.findIdx? lX=some i:=by
      rw [List.findIdx?_eq_some_iff_getElem];refine ⟨hlt,hb2,fun j b=>?_⟩;have:=a.out.1 j (by omega) b;simp [this]
     rw [HR.out,this];rfl
    go_wp2_with (go_at_call 100;refine HF.mono ?_;clear HF;rintro e w1 ⟨rfl,hb1⟩)
    go_ret;exact ⟨by rw [HE.out];rfl,a.out.2.trans (hb1.mono a.out.2.size)⟩
   |false=>
    rw [hb2] at HF;go_wp2_with (go_at_call 100;refine HF.mono ?_;clear HF;rintro e w1 ⟨rfl,hb1⟩)
    refine ⟨⟨i+1,by omega,by go_num,fun j b hji=>?_,a.out.2.trans (hb1.mono a.out.2.size)⟩,by simp [intOf];omega⟩;by_cases l:j=i
    .subst l;exact hb2
    .exact a.out.1 j b (by omega)
  .have:i=zs.length:=by omega
   subst this;go_wp2_with fail
   go_ret;refine ⟨?_,hb⟩;have:zs.findIdx? lX=none:=by
    rw [List.findIdx?_eq_none_iff];intro z hz;obtain ⟨j,b,rfl⟩:=gM hz;exact hno j b b
   rw [HR.out,this];rfl
theorem jU {zs:List (LsA×Option Ww)}{j:Nat}(a:j<zs.length):(zs.take (j+1)).filter im=(zs.take j).filter im++(if im zs[j] then [zs[j]] else []):=by
 rw [tS a,List.filter_append];congr 1;by_cases h:im zs[j]=true
 .simp [h]
 .simp [h]
theorem By (B:Nat)(t:Option Ww)(f:Nat)(zs:List (LsA×Option Ww))(w:Wz)(hz:w.ownsRow B 125 8 (.slice t zs.length f) zs.length (aT zs))(hl:zs.length<=3):
  Calls Yq.prog 99 #[.slice t zs.length f,.func (.func 100) #[] #[]] w fun e w'=>∃v',e=.returned v'/\w'.ownsRow B 125 8 v' (zs.filter im).length (aT (zs.filter im))/\(∀g,v'.ownBlock=some g->(Value.slice t zs.length f).ownBlock=some g)/\du (Value.slice t zs.length f).ownBlock w w':=by
 have HIX:=DQ B t f zs w hz hl;cases hp:zs.findIdx? lX with
 |none=>
  rw [hp] at HIX;simp only [Option.map_none,Option.getD_none] at HIX;have n:zs.filter im=zs:=by
   rw [List.filter_eq_self];intro z hz;have:=List.findIdx?_eq_none_iff.1 hp z hz;simp [im,this]
  rw [n];have HZ:Hid (w.ownsRow B 125 8 (.slice t zs.length f) zs.length (aT zs)):=hz;clear hz n hp;go_enter (Yq.nq func99),ntmps99;go_wp2_with (go_at_call 71;refine HIX.mono ?_;clear HIX;rintro e w1 ⟨rfl,hb1⟩)
  go_ret;exact ⟨_,rfl,aZ HZ.out fun g _ hg=>hb1.block g hg,fun _ h=>h,.below hb1⟩
 |some p=>
  rw [hp] at HIX;simp only [Option.map_some,Option.getD_some] at HIX;obtain ⟨hp1,x,C⟩:=List.findIdx?_eq_some_iff_getElem.1 hp;obtain ⟨g,cap,he⟩:∃g cap,Value.slice t zs.length f=.slice (some ⟨g,0,none⟩) zs.length cap:=by
   rcases hz.2 with ⟨h1,h2⟩|⟨g,cap,F,h1,-⟩
   .omega
   .exact ⟨g,cap,h1⟩
  cases he;have hR0:=nh.of_owns hz;have HS:Hid (nh B w g f zs/\(zs.take (p+1)).filter im=zs.take p):=by
   refine ⟨hR0,?_⟩;rw [jU hp1];have e1:(zs.take p).filter im=zs.take p:=by
    rw [List.filter_eq_self];intro z hz;obtain ⟨j,J,rfl⟩:=gM hz;have hj':j<p:=by simp at J;omega
    have:=C j hj';rw [List.getElem_take];simpa [im] using this
   rw [e1];simp [im,x]
  have hpI:((p:Int) == -1)=false:=by simp
  have hpI2:¬((p:Int)=-1):=by omega
  have hvc:zs.length<=f:=hR0.le;clear hz hp x C hR0;go_enter (Yq.nq func99),ntmps99;go_wp2_with (go_at_call 71;refine HIX.mono ?_;clear HIX;rintro e w1 ⟨rfl,hb1⟩)
  go_loopw [5,6,7] (fun s5 s6 _ wr=>∃ (i j:Nat) (b:List (LsA×Option Ww)),s5=.int .i64 i/\s6=.int .i64 j/\j<=zs.length/\i<j/\b.length=zs.length/\b.take i=(zs.take j).filter im/\b.drop j=zs.drop j/\nh B wr g f b/\du (some g) w wr) (fun _ s6 _ _=>zs.length-(intOf s6).toNat)
  case atStart=>exact ⟨p,p+1,zs,rfl,by go_num,hp1,by omega,rfl,HS.out.2.symm,rfl,HS.out.1.same (hb1.block g HS.out.1.lt),.below hb1⟩
  case round=>
   obtain ⟨i,j,b,rfl,rfl,J,hij,u,htk,m,a,hleft⟩:=hrel;by_cases hlt:j<zs.length
   .have y:j<b.length:=by omega
    have v:i<b.length:=by omega
    have A:b[j]=zs[j]:=by
     have h1:(b.drop j)[0]?=(zs.drop j)[0]?:=by rw [m]
     rw [List.getElem?_drop,List.getElem?_drop,Nat.add_zero,List.getElem?_eq_getElem y,List.getElem?_eq_getElem hlt] at h1;exact oJ h1
    have hc:=a.cells j y;rw [A] at hc;have q0:=hc 0 (by omega);have q1:=hc 1 (by omega);have q2:=hc 2 (by omega);have q3:=hc 3 (by omega);have q4:=hc 4 (by omega);have q5:=hc 5 (by omega);have q6:=hc 6 (by omega);have q7:=hc 7 (by omega);simp only [aE,LsA.lst,gA,gZ,gS,Nat.add_zero] at q0 q1 q2 q3 q4 q5 q6 q7;obtain ⟨W,r⟩:∃W,W=wr.alloc (.cells #[.int .i64 zs[j].1.num,.pointer zs[j].2,.bool zs[j].1.q.vs,.string zs[j].1.q.p,.string zs[j].1.q.d,.string zs[j].1.q.af,.int .i64 zs[j].1.size,.int .i64 zs[j].1.left] 125):=⟨_,rfl⟩;have HF:Calls Yq.prog 100 #[.agg #[.int .i64 zs[j].1.num,.pointer zs[j].2,.bool zs[j].1.q.vs,.string zs[j].1.q.p,.string zs[j].1.q.d,.string zs[j].1.q.af,.int .i64 zs[j].1.size,.int .i64 zs[j].1.left]] W fun e w'=>e=.returned (.bool (lX zs[j]))/\Below W.heap.size W w':=tV (zs[j].1.lst zs[j].2) W
    have hgl:=a.lt;have HI:Hid (b.length=zs.length/\b.take i=(zs.take j).filter im/\b.drop j=zs.drop j/\nh B wr g f b/\du (some g) w wr):=⟨u,htk,m,a,hleft⟩;have HB:Hid (∀w2,Below W.heap.size W w2->du (some g) w w2/\nh B w2 g f b /\
      (w2.cell? ⟨wr.heap.size,0,none⟩=some (.int .i64 zs[j].1.num)/\w2.cell? ⟨wr.heap.size,1,none⟩=some (.pointer zs[j].2)/\w2.cell? ⟨wr.heap.size,2,none⟩=some (.bool zs[j].1.q.vs)/\w2.cell? ⟨wr.heap.size,3,none⟩=some (.string zs[j].1.q.p)/\w2.cell? ⟨wr.heap.size,4,none⟩=some (.string zs[j].1.q.d)/\w2.cell? ⟨wr.heap.size,5,none⟩=some (.string zs[j].1.q.af)/\w2.cell? ⟨wr.heap.size,6,none⟩=some (.int .i64 zs[j].1.size)/\w2.cell? ⟨wr.heap.size,7,none⟩=some (.int .i64 zs[j].1.left))):=fun w2 hb2=>by
     have s:Below wr.heap.size wr W:=by rw [r];exact (bR _ _).alloc (lR _) _
     have e:w2.heap[wr.heap.size]?=some (.cells #[.int .i64 zs[j].1.num,.pointer zs[j].2,.bool zs[j].1.q.vs,.string zs[j].1.q.p,.string zs[j].1.q.d,.string zs[j].1.q.af,.int .i64 zs[j].1.size,.int .i64 zs[j].1.left] 125):=by
      rw [hb2.block _ (by rw [r];simp),r];exact aN _ _
     refine ⟨hleft.trans ((du.below s).trans (.below hb2)),a.same ((hb2.block g (by have:=s.size;omega)).trans (s.block g hgl)),?_⟩;refine ⟨?_,?_,?_,?_,?_,?_,?_,?_⟩<;>simp [World.cell?,e]
    clear u htk m a hleft hc A;cases k:lX zs[j] with
    |true=>
     rw [k] at HF;rw [r] at HF;go_wp2_with (go_at_call 100;refine HF.mono ?_;clear HF;rintro e w2 ⟨rfl,hb2⟩)
     obtain ⟨h1,h2,-⟩:=HB.out w2 (by rw [r];exact hb2);obtain ⟨k1,k2,I,-,-⟩:=HI.out;refine ⟨⟨i,j+1,b,rfl,by go_num,by omega,by omega,k1,?_,?_,h2,h1⟩,by simp [intOf];omega⟩
     .rw [jU hlt,k2];simp [im,k]
     .have:=congrArg (List.drop 1) I
      rwa [List.drop_drop,List.drop_drop] at this
    |false=>
     rw [k] at HF;rw [r] at HF;go_wp2_with (go_at_call 100;refine HF.mono ?_;clear HF;rintro e w2 ⟨rfl,hb2⟩;obtain ⟨E,hr2,b0,b1,b2,b3,b4,b5,b6,b7⟩:=HB.out w2 (by rw [r];exact hb2);have hc:=hr2.cells i v;have p0:=hc 0 (by omega);have p1:=hc 1 (by omega);have p2:=hc 2 (by omega);have p3:=hc 3 (by omega);have p4:=hc 4 (by omega);have p5:=hc 5 (by omega);have p6:=hc 6 (by omega);have p7:=hc 7 (by omega);simp only [aE,LsA.lst,gA,gZ,gS,Nat.add_zero] at p0 p1 p2 p3 p4 p5 p6 p7;have f0:=hr2.frozen (i * 8);have f1:=hr2.frozen (i * 8+1);have f2:=hr2.frozen (i * 8+2);have f3:=hr2.frozen (i * 8+3);have f4:=hr2.frozen (i * 8+4);have f5:=hr2.frozen (i * 8+5);have f6:=hr2.frozen (i * 8+6);have f7:=hr2.frozen (i * 8+7);have HE:Hid (_/\_):=And.intro E hr2;clear E hr2 hc)
     obtain ⟨k1,k2,I,-,-⟩:=HI.out;refine ⟨⟨i+1,j+1,b.set i zs[j],by go_num,by go_num,by omega,by omega,by simp [k1],?_,?_,HE.out.2.set8 i v zs[j],?_⟩,by simp [intOf];omega⟩
     .rw [jU hlt,<-k2,tS (by simpa using v),List.getElem_set_self];have:(b.set i zs[j]).take i=b.take i:=by rw [List.take_set];exact List.set_eq_of_length_le (by simp;omega)
      rw [this];simp [im,k]
     .rw [List.drop_set_of_lt (by omega)];have:=congrArg (List.drop 1) I
      rwa [List.drop_drop,List.drop_drop] at this
     .exact HE.out.1.trans (du.set8 (l:=zs[j].1.lst zs[j].2))
   .have:j=zs.length:=by omega
    subst this;obtain ⟨F,c,hcs⟩:=a.obj;obtain ⟨o,hcl0,G,D⟩:=DP wr g (i * 8) (zs.length-i) F c (by omega) (by omega);have H:Hid (nh B (wr.setRow g o) g f (zs.filter im)/\(zs.filter im).length=i/\du (some g) w (wr.setRow g o)):=by
     have hr:=a.cut c G D (by omega);rw [htk,tO (lR _)] at hr;refine ⟨hr,?_,hleft.trans (du.setRow c)⟩;have:=congrArg List.length htk;rw [tO (lR zs.length),tL] at this;omega
    clear a hleft htk m u c G D;go_wp2_with fail
    go_ret;obtain ⟨e1,e2,e3⟩:=H.out;have e4:=e1.owns;rw [e2] at e4 ⊢;exact ⟨_,rfl,e4,fun _ h=>h,e3⟩
def jr (L:Lg)(u:Int):Lg:={L with opened:=(L.opened.map fun x=>x.again (x.left-u)).filter fun x=>!decide (x.left<=0)}
section
variable {A:Nat->Prop} {B k0:Nat} {L:Lg}
theorem dr.reopen {w w':Wz}(h:dr A B w k0 L){v v':Wq}{zs n:List (LsA×Option Ww)}(c4:w.cell? ⟨k0,4,none⟩=some v)(z2:w.ownsRow B 125 8 v zs.length (aT zs))(z3:∀g,v.ownBlock=some g->¬A g)(ho:w'.ownsRow B 125 8 v' n.length (aT n))(o:∀g,v'.ownBlock=some g->v.ownBlock=some g)(hl:du v.ownBlock w w')(hy:∀z∈n,ai A 41 w z.2 z.1.f):
  dr A B (w'.setCell ⟨k0,4,none⟩ v') k0 {L with opened:=n.map (·.1)}/\aJ A B k0 w (w'.setCell ⟨k0,4,none⟩ v')/\FrC k0 w (w'.setCell ⟨k0,4,none⟩ v'):=by
 have hk:=h.low;have hlt:=h.lt;obtain ⟨s,c6,hm⟩:=h.told;have q:∀g,v.ownBlock=some g->B<=g:=fun g hg=>(z2.lt g hg).1
 have d:w'.heap[k0]?=w.heap[k0]?:=hl.block k0 hlt (fun e=>by have:=q k0 e;omega);have c:∀b,b≠k0->(w'.setCell ⟨k0,4,none⟩ v').heap[b]?=w'.heap[b]?:=fun b hb=>bS _ _ _ _ hb
 have p:∀b,A b->(w'.setCell ⟨k0,4,none⟩ v').heap[b]?=w.heap[b]?:=fun b hb=>(c b (fun e=>h.avoid (e▸hb))).trans (hl.block b (h.inn b hb) (fun e=>z3 b e hb))
 have l:∀j,w'.cell? ⟨k0,j,none⟩=w.cell? ⟨k0,j,none⟩:=fun j=>cB (a:=⟨k0,j,none⟩) d
 have i:∀j,j≠4->(w'.setCell ⟨k0,4,none⟩ v').cell? ⟨k0,j,none⟩=w.cell? ⟨k0,j,none⟩:=fun j h4=>by
  rw [cO _ _ _ _ (aW fun e=>h4 e.symm),l]
 have hfz:∀j,(w'.setCell ⟨k0,4,none⟩ v').frozen? ⟨k0,j,none⟩=w.frozen? ⟨k0,j,none⟩:=fun j=>by
  rw [World.frozen?_setCell];exact fB (a:=⟨k0,j,none⟩) d
 have hsz:w.heap.size<=(w'.setCell ⟨k0,4,none⟩ v').heap.size:=by have:=hl.size;simpa using this
 refine ⟨⟨⟨v',?_,n,rfl,eO ho fun g hg=>c g (by have:=(ho.lt g hg).1;omega),fun g hg=>z3 g (o g hg),fun z hz=>ai.keep (fun b hb _=>⟨hb,p b hb⟩) 41 _ _ (hy z hz)⟩,(i 5 (by omega)).trans h.begun,⟨s,(i 6 (by omega)).trans c6,?_⟩,fun j=>(hfz j).trans (h.frozen j),h.avoid,h.low,fun b hb=>lL (h.inn b hb) hsz⟩,⟨hl.os,hsz,fun b h1 h2 h3=>(c b h3).trans (hl.block b h2 (fun e=>by have:=q b e;omega)),fun b hb _=>p b hb,fun j hj=>i j (by omega),hfz⟩,?_⟩
 rotate_right
 .refine ⟨hsz,fun b hb d ho=>(c b d).trans (hl.block b hb.lt (fun e=>ho ⟨v,c4,e⟩)),fun b ho=>?_⟩;obtain ⟨x,h1,h2⟩:=ho;rw [cS _ _ _ (by rw [l,c4];rfl)] at h1;cases h1;exact .inl ⟨v,c4,o b h2⟩
 .exact cS _ _ _ (by rw [l,c4];rfl)
 .rcases hm with hm|⟨m,es,k,m1,m2,m3,t,r⟩
  .exact .inl hm
  .refine .inr ⟨m,es,k,m1,?_,m3,t,r⟩;rw [c m (by omega),hl.block m (eS m2).1 (fun e=>?_)]
   .exact m2
   .rcases z2.2 with ⟨rfl,-⟩|⟨g,cap,cur,rfl,hb,hr,-⟩
    .cases e
    .cases e;rw [hr] at m2;cases m2
def Gv (u:Int)(z:LsA×Option Ww):LsA×Option Ww:=(z.1.again (z.1.left-u),z.2)
theorem F0 (w:Wz)(h:dr A B w k0 L)(hop:L.opened.length<=3)(u:Int)(hu:0<=u/\u<=1000)(v:∀x∈L.opened,0<=x.left/\x.left<=10):
  Calls Yq.prog 75 #[.pointer (some ⟨k0,4,none⟩),.int .i64 u] w fun e w'=>e=.returned (.tuple #[])/\dr A B w' k0 (jr L u)/\aJ A B k0 w w'/\FrC k0 w w':=by
 obtain ⟨v4,c4,zs,z1,z2,z3,z4⟩:=h.opened;obtain ⟨k,j,rfl,-⟩:=az z2;have hlz:L.opened.length=zs.length:=by rw [z1];simp
 have hlt:=h.lt;have C:∀i (hi:i<zs.length),0<=zs[i].1.left/\zs[i].1.left<=10:=fun i hi=>v _ (by rw [z1];exact List.mem_map.2 ⟨zs[i],List.getElem_mem hi,rfl⟩)
 have hzl:zs.length<=3:=by omega
 obtain ⟨c,q⟩:∃c:Nat->List (LsA×Option Ww),c=fun i=>(zs.take i).map (Gv u)++zs.drop i:=⟨_,rfl⟩
 have b:∀i,(c i).length=zs.length:=fun i=>by rw [q];simp;omega
 have HY:Hid (c=fun i=>(zs.take i).map (Gv u)++zs.drop i):=q;have HL:Hid (dr A B w k0 L/\(L.opened=zs.map (·.1))/\w.ownsRow B 125 8 (.slice k zs.length j) zs.length (aT zs)/\(∀g,(Value.slice k zs.length j).ownBlock=some g->¬A g)/\(∀z∈zs,ai A 41 w z.2 z.1.f)):=⟨h,z1,z2,z3,z4⟩;clear q z1 z2 z3 z4 v h;go_enter (Yq.nq func75),ntmps75;go_wp2_with fail
 go_loopw [4,10] (fun _ s10 wr=>∃i:Nat,i<=zs.length/\s10=.int .i64 i/\dr A B wr k0 {L with opened:=(c i).map (·.1)}/\aJ A B k0 w wr/\FrC k0 w wr/\wr.cell? ⟨k0,4,none⟩=some (.slice k zs.length j)/\wr.ownsRow B 125 8 (.slice k zs.length j) (c i).length (aT (c i))/\∀z∈c i,ai A 41 wr z.2 z.1.f) (fun _ s10 _=>zs.length-(intOf s10).toNat)
 case atStart=>
  have e0:c 0=zs:=by rw [HY.out];simp
  obtain ⟨h1,h2,h3,h4,h5⟩:=HL.out;refine ⟨0,Nat.zero_le _,rfl,?_,aJ.refl,FrC.refl,c4,?_,?_⟩
  .rw [e0,<-h2];exact h1
  .rw [e0];exact h3
  .rw [e0];exact h5
 case round=>
  obtain ⟨i,hi,rfl,hls,o,hfr,k4,hown,n⟩:=hrel;by_cases hlt2:i<zs.length
  .obtain ⟨g,cap,he⟩:∃g cap,Value.slice k zs.length j=.slice (some ⟨g,0,none⟩) zs.length cap:=by
    rcases HL.out.2.2.1.2 with ⟨h1,h2⟩|⟨g,cap,cur,h1,-⟩
    .omega
    .exact ⟨g,cap,h1⟩
   cases he;have r:i<(c i).length:=by rw [b];exact hlt2
   have y:(c i)[i]=zs[i]:=by
    have:(c i)[i]?=some zs[i]:=by
     rw [HY.out];simp only;rw [aR (by simp;omega)];simp;rw [Nat.min_eq_left (by omega)];simp [hlt2]
    rw [List.getElem?_eq_getElem r] at this;exact oJ this
   have d:wr.ownsRow B 125 8 (.slice (some ⟨g,0,none⟩) (c i).length j) (c i).length (aT (c i)):=by rw [b] at hown ⊢;exact hown
   have q7:=(lU d i r).2.2.2.2.2.2.2;rw [y] at q7;have f7:=(nh.of_owns d).frozen (i * 8+7);have s:wr.cell? ⟨k0,4,none⟩=some (.slice (some ⟨g,0,none⟩) (c i).length j):=by rw [b];exact k4
   obtain ⟨hlo,hhi⟩:=C i hlt2;have hwr:wrap64 (zs[i].1.left-u)=zs[i].1.left-u:=by unfold wrap64;omega
   have hnext:=hls.setLeft s rfl d (HL.out.2.2.2.1 g rfl) n i r (zs[i].1.left-u);rw [y] at hnext;have p:(c i).set i (zs[i].1.again (zs[i].1.left-u),zs[i].2)=c (i+1):=by
    rw [HY.out];simp only;rw [List.set_append_right _ _ (by simp;omega),tS hlt2,List.map_append,pA];congr 1;have e0:i-(List.map (Gv u) (List.take i zs)).length=0:=by simp;omega
    rw [e0,List.drop_eq_getElem_cons hlt2,List.set_cons_zero];simp [Gv]
   have HN:Hid (dr A B (wr.setCell ⟨g,i * 8+7,none⟩ (.int .i64 (zs[i].1.left-u))) k0 {L with opened:=(c (i+1)).map (·.1)}/\aJ A B k0 w (wr.setCell ⟨g,i * 8+7,none⟩ (.int .i64 (zs[i].1.left-u)))/\FrC k0 w (wr.setCell ⟨g,i * 8+7,none⟩ (.int .i64 (zs[i].1.left-u)))/\(wr.setCell ⟨g,i * 8+7,none⟩ (.int .i64 (zs[i].1.left-u))).cell? ⟨k0,4,none⟩=some (.slice (some ⟨g,0,none⟩) zs.length j)/\(wr.setCell ⟨g,i * 8+7,none⟩ (.int .i64 (zs[i].1.left-u))).ownsRow B 125 8 (.slice (some ⟨g,0,none⟩) zs.length j) (c (i+1)).length (aT (c (i+1)))/\∀z∈c (i+1),ai A 41 (wr.setCell ⟨g,i * 8+7,none⟩ (.int .i64 (zs[i].1.left-u))) z.2 z.1.f):=by
    rw [<-p];obtain ⟨F,n2,n3,n4⟩:=hnext;refine ⟨?_,o.trans n2,hfr.trans (FrC.open ⟨_,k4,rfl⟩ (by have:=(d.lt g rfl).1;have:=hls.low;omega)),?_,?_,n4⟩
    .rw [List.map_set];exact F
    .rw [cB (w:=wr) (a:=⟨k0,4,none⟩) (bS _ _ _ _ (show k0≠g by have:=(d.lt g rfl).1;have:=hls.low;omega))];exact k4
    .rw [b] at n3;exact n3
   clear hls o hfr hown n d hnext p s;go_wp2_with fail
   exact ⟨⟨i+1,by omega,by go_num,HN.out⟩,by simp [intOf];omega⟩
  .have:i=zs.length:=by omega
   subst this;have t:c zs.length=zs.map (Gv u):=by rw [HY.out];simp
   have hDEL:=By B k j (c zs.length) wr (by rw [b] at hown ⊢;exact hown) (by rw [b];omega);rw [b] at hDEL;have D:Hid (FrC k0 w wr):=hfr;have HE:Hid (dr A B wr k0 {L with opened:=(c zs.length).map (·.1)}/\aJ A B k0 w wr/\wr.ownsRow B 125 8 (.slice k zs.length j) (c zs.length).length (aT (c zs.length))/\(∀z∈c zs.length,ai A 41 wr z.2 z.1.f)/\c zs.length=zs.map (Gv u)):=⟨hls,o,hown,n,t⟩;have HC:Hid (∀w2,du (Value.slice k zs.length j).ownBlock wr w2->w2.cell? ⟨k0,4,none⟩=some (.slice k zs.length j)/\w2.frozen? ⟨k0,4,none⟩=false):=fun w2 E=>by
    have e:w2.heap[k0]?=wr.heap[k0]?:=E.block k0 hls.lt (fun e=>by have:=(hown.lt k0 e).1;have:=hls.low;omega);exact ⟨(cB (a:=⟨k0,4,none⟩) e).trans k4,(fB (a:=⟨k0,4,none⟩) e).trans (hls.frozen 4)⟩
   clear hls o hfr hown n t;go_wp2_with (go_at_call 99;refine hDEL.mono ?_;clear hDEL;rintro e w2 ⟨v',rfl,l,m,hl'⟩;obtain ⟨va',vc',rfl,-⟩:=az l;obtain ⟨d4,g4⟩:=HC.out w2 hl';have HD:Hid (_/\_/\_):=And.intro l (And.intro m hl');clear l m hl')
   go_end0;obtain ⟨h1,h2,h3,h4,h5⟩:=HE.out;obtain ⟨l,m,hl'⟩:=HD.out;obtain ⟨r1,r2,G⟩:=h1.reopen k4 h3 HL.out.2.2.2.1 l m hl' (fun z hz=>h4 z (List.mem_filter.1 hz).1);refine ⟨rfl,?_,h2.trans r2,D.out.trans G⟩;have e:jr L u={L with opened:=((c zs.length).filter im).map (·.1)}:=by
    unfold jr;congr 1;rw [h5,HL.out.2.1,List.map_map,List.filter_map,List.filter_map,List.map_map];rfl
   rw [e];exact r1
end
theorem xA (k0:Nat)(p:Option Ww)(w:Wz)(c0:w.cell? ⟨k0,0,none⟩=some (.pointer p)):Calls Yq.prog 41 #[.pointer (some ⟨k0,0,none⟩)] w fun e w'=>e=.returned (.agg #[.pointer p])/\w'=w.alloc (.cells #[.pointer p] 56):=by
 have hlt:k0<w.heap.size:=bC w _ c0;go_enter (Yq.nq func41),ntmps41;go_wp2_with fail
 exact bodyPost_ret (v:=.agg #[.pointer p]) (by simp [results,results41,go_sem]) rfl ⟨rfl,rfl⟩
theorem DR (k0:Nat)(n:Int)(w:Wz)(c1:w.cell? ⟨k0,1,none⟩=some (.int .i64 n)):Calls Yq.prog 46 #[.pointer (some ⟨k0,0,none⟩)] w fun e w'=>e=.returned (.int .i64 n)/\w'=w:=by
 go_enter (Yq.nq func46),ntmps46;go_wp2_with fail
 go_ret;exact ⟨rfl,rfl⟩
theorem DS (b:Bool)(p d a:ByteArray)(w:Wz):(Instr.build 93 #[(0,.bool b),(1,.string p),(2,.string d),(3,.string a)]).run Yq.prog w=.ok (.agg #[.bool b,.string p,.string d,.string a]) w:=by kernel_rfl
theorem xB (o:OpD)(w:Wz):Calls Yq.prog 42 #[cE o] w fun e w'=>e=.returned (qV (o.kind==7) o.key o.delim o.past)/\Below w.heap.size w w':=by
 obtain ⟨c,key,body,a,b,n,src⟩:=o;have hb:=DS;unfold cE qV;go_enter (Yq.nq func42),ntmps42;go_wp2_with fail
 exact bodyPost_ret (v:=.agg #[.bool (c==7),.string key,.string a,.string b]) (by simp [results,results42,go_sem]) rfl ⟨rfl,((bR _ _).alloc (lR _) _).alloc (by simp) _⟩
theorem DT (k0:Nat)(n u:Int)(w:Wz)(c3:w.cell? ⟨k0,3,none⟩=some (.int .u64 n))(f3:w.frozen? ⟨k0,3,none⟩=false):Calls Yq.prog 74 #[.pointer (some ⟨k0,0,none⟩),.int .i64 u] w fun e w'=>e=.returned (.tuple #[])/\w'=w.setCell ⟨k0,3,none⟩ (.int .u64 (IntKind.u64.wrap (n+u))):=by
 go_enter (Yq.nq func74),ntmps74;go_wp2_with fail
 go_end0;exact ⟨rfl,by congr 2;simp [IntKind.wrap,IntKind.bits,IntKind.signed]⟩
theorem xC (k0:Nat)(a:Option Ww)(n c:Nat)(s:Int)(w:Wz)(_hn:n<=2199023255552)(c8:w.cell? ⟨k0,8,none⟩=some (.slice a n c)):Calls Yq.prog 73 #[.pointer (some ⟨k0,0,none⟩),.int .i64 s] w fun e w'=>e=.returned (.bool (decide (0<=s/\s<n)))/\w'=w:=by
 by_cases h1:0<=s
 .by_cases h2:s<n
  .have e:decide (0<=s/\s<n)=true:=by simp [h1,h2]
   rw [e];go_enter (Yq.nq func73),ntmps73;go_wp2_with fail
   go_ret;exact ⟨rfl,rfl⟩
  .have e:decide (0<=s/\s<n)=false:=by simp [h2]
   rw [e];go_enter (Yq.nq func73),ntmps73;go_wp2_with fail
   go_ret;exact ⟨by simp,rfl⟩
 .have e:decide (0<=s/\s<n)=false:=by simp [h1]
  rw [e];go_enter (Yq.nq func73),ntmps73;go_wp2_with fail
  go_ret;exact ⟨rfl,rfl⟩
structure aI (A:Nat->Prop)(B:Nat)(w:Wz)(k0:Nat)(st:St)(L:Lg):Prop where
 store:aw A w k0 st
 ls:dr A B w k0 L
 time:w.cell? ⟨k0,3,none⟩=some (.int .u64 L.tm)
structure em (A:Nat->Prop)(B k0:Nat)(w w':Wz):Prop where
 os:w'.os=w.os
 size:w.heap.size<=w'.heap.size
 low:∀b,b<B->b<w.heap.size->b≠k0->w'.heap[b]?=w.heap[b]?
 tree:∀b,A b->b<w.heap.size->w'.heap[b]?=w.heap[b]?
 cells:∀j,6<j->w'.cell? ⟨k0,j,none⟩=w.cell? ⟨k0,j,none⟩
 fz:∀j,w'.frozen? ⟨k0,j,none⟩=w.frozen? ⟨k0,j,none⟩
section
variable {A A':Nat->Prop} {B k0:Nat} {w w' w'':Wz} {st:St} {L L':Lg}
theorem aJ.weak (h:aJ A B k0 w w'):em A B k0 w w':=⟨h.os,h.size,h.low,h.tree,fun j a=>h.cells j (.inr a),h.fz⟩
theorem em.trans (h:em A B k0 w w')(k:em A B k0 w' w''):em A B k0 w w'':=
 ⟨k.os.trans h.os,lT h.size k.size,fun b h1 h2 h3=>(k.low b h1 (lL h2 h.size) h3).trans (h.low b h1 h2 h3),fun b h1 h2=>(k.tree b h1 (lL h2 h.size)).trans (h.tree b h1 h2),fun j a=>(k.cells j a).trans (h.cells j a),fun j=>(k.fz j).trans (h.fz j)⟩
theorem aw.desk (S:aw A w k0 st)(hd:aJ A B k0 w w')(hA:∀b,A b->A' b)(hk:¬A' k0):aw A' w' k0 st:=by
 obtain ⟨p,c0,a⟩:=S.tree;exact ⟨fun b hb e=>hk (e▸hb),⟨p,(hd.cells 0 (.inl (by omega))).trans c0,ai.keep (fun b hb hlt=>⟨hA b hb,hd.tree b hb hlt⟩) 41 _ _ a⟩,(hd.cells 1 (.inl (by omega))).trans S.count,(hd.cells 2 (.inl (by omega))).trans S.last,fun j=>(hd.fz j).trans (S.frozen j)⟩
theorem aI.step (h:aI A B w k0 st L)(hd:aJ A B k0 w w')(hA:∀b,A b->A' b)(hl:dr A' B w' k0 L')(ht:L'.tm=L.tm):aI A' B w' k0 st L':=
 ⟨h.store.desk hd hA hl.avoid,hl,by rw [ht];exact (hd.cells 3 (.inl (by omega))).trans h.time⟩
theorem aI.setTime (h:aI A B w k0 st L)(m:Int):aI A B (w.setCell ⟨k0,3,none⟩ (.int .u64 m)) k0 st {L with tm:=m}/\em A B k0 w (w.setCell ⟨k0,3,none⟩ (.int .u64 m)):=by
 have hne:∀b,b≠k0->(w.setCell ⟨k0,3,none⟩ (.int .u64 m)).heap[b]?=w.heap[b]?:=fun b hb=>bS _ _ _ _ hb
 have hc:∀j,j≠3->(w.setCell ⟨k0,3,none⟩ (.int .u64 m)).cell? ⟨k0,j,none⟩=w.cell? ⟨k0,j,none⟩:=fun j c=>cO _ _ _ _ (aW (by omega))
 have hf:∀j,(w.setCell ⟨k0,3,none⟩ (.int .u64 m)).frozen? ⟨k0,j,none⟩=w.frozen? ⟨k0,j,none⟩:=fun j=>World.frozen?_setCell ..
 have hA:∀b,A b->(w.setCell ⟨k0,3,none⟩ (.int .u64 m)).heap[b]?=w.heap[b]?:=fun b hb=>hne b (fun e=>h.ls.avoid (e▸hb))
 have c3:=h.time;obtain ⟨p,c0,f⟩:=h.store.tree;obtain ⟨v,c4,zs,z1,z2,z3,z4⟩:=h.ls.opened;obtain ⟨d,c6,hm⟩:=h.ls.told;have hlow:=h.ls.low;refine ⟨⟨⟨h.store.avoid,⟨p,(hc 0 (by omega)).trans c0,ai.keep (fun b hb _=>⟨hb,hA b hb⟩) 41 _ _ f⟩,(hc 1 (by omega)).trans h.store.count,(hc 2 (by omega)).trans h.store.last,fun j=>(hf j).trans (h.store.frozen j)⟩,⟨⟨v,(hc 4 (by omega)).trans c4,zs,z1,eO z2 fun g hg=>hne g (by have:=(z2.lt g hg).1;omega),z3,fun z hz=>ai.keep (fun b hb _=>⟨hb,hA b hb⟩) 41 _ _ (z4 z hz)⟩,(hc 5 (by omega)).trans h.ls.begun,⟨d,(hc 6 (by omega)).trans c6,?_⟩,fun j=>(hf j).trans (h.ls.frozen j),h.ls.avoid,h.ls.low,fun b hb=>by simpa using h.ls.inn b hb⟩,cS _ _ _ (by rw [c3];rfl)⟩,⟨rfl,by simp,fun b _ _ hb=>hne b hb,fun b hb _=>hA b hb,fun j c=>hc j (by omega),hf⟩⟩;rcases hm with hm|⟨m',es,a,m1,m2,m3⟩
 .exact .inl hm
 .exact .inr ⟨m',es,a,m1,(hne m' (by have:=m3.2.2;omega)).trans m2,m3⟩
def cX (L:Lg)(u:Int):Lg×Int:=if u<0\/1000<u then (L,11) else (jr {L with tm:=IntKind.u64.wrap (L.tm+u)} u,0)
theorem F1 (w:Wz)(h:aI A B w k0 st L)(c:L.opened.length<=3)(u:Int)(d:∀x∈L.opened,0<=x.left/\x.left<=10):
  Calls Yq.prog 45 #[.pointer (some ⟨k0,0,none⟩),.int .i64 u] w fun e w'=>e=.returned (.int .i64 (cX L u).2)/\aI A B w' k0 st (cX L u).1/\em A B k0 w w'/\FrC k0 w w':=by
 have HD:Hid (aI A B w k0 st L):=h;have a:em A B k0 w w:=(aJ.refl (A:=A) (B:=B) (k0:=k0) (w:=w)).weak;by_cases b:u<0\/1000<u
 .have e:cX L u=(L,11):=by rw [cX,if_pos b]
  rw [e];clear h;rcases b with h1|h2
  .go_enter (Yq.nq func45),ntmps45;go_wp2_with fail
   go_ret;exact ⟨rfl,HD.out,a,FrC.refl⟩
  .have h1:¬u<0:=by omega
   go_enter (Yq.nq func45),ntmps45;go_wp2_with fail
   go_ret;exact ⟨rfl,HD.out,a,FrC.refl⟩
 .have e:cX L u=(jr {L with tm:=IntKind.u64.wrap (L.tm+u)} u,0):=by rw [cX,if_neg b]
  rw [e];have h1:¬u<0:=by omega
  have h2:¬1000<u:=by omega
  have c3:=h.time;have HS:=DT k0 L.tm u w c3 (h.ls.frozen 3);have HP:Hid (∀m,Calls Yq.prog 75 #[.pointer (some ⟨k0,4,none⟩),.int .i64 u] (w.setCell ⟨k0,3,none⟩ (.int .u64 m)) fun e w'=>e=.returned (.tuple #[])/\aI A B w' k0 st (jr {L with tm:=m} u)/\em A B k0 w w'/\FrC k0 w w'):=fun m=>by
   obtain ⟨d1,d2⟩:=HD.out.setTime m;refine (F0 _ d1.ls c u (by omega) d).mono ?_;rintro e w' ⟨rfl,p1,p2,p3⟩;exact ⟨rfl,d1.step p2 (fun _ h=>h) p1 rfl,d2.trans p2.weak,(FrC.set 3 _ (by omega)).trans p3⟩
  clear h c3;go_enter (Yq.nq func45),ntmps45;go_wp2_with (first
   |(go_at_call 74;refine HS.mono ?_;clear HS;rintro e w1 ⟨rfl,rfl⟩)
   |(go_at_call 75;refine (HP.out _).mono ?_;clear HP;rintro e w2 ⟨rfl,p1,p2,p3⟩))
  go_ret;exact ⟨rfl,p1,p2,p3⟩
end
def jB (x:LsA):ItD:=⟨0,⟨#[]⟩,x.left⟩
theorem vQ (v:Int)(w:Wz):(Instr.build 41 #[(2,.int .i64 v)]).run Yq.prog w=.ok (.agg #[.int .i64 0,.string ⟨#[]⟩,.int .i64 v]) w:=by kernel_rfl
section
variable {A:Nat->Prop} {B k0:Nat} {L:Lg}
theorem Bz (w:Wz)(h:dr A B w k0 L)(hop:L.opened.length<=3):
  Calls Yq.prog 47 #[.pointer (some ⟨k0,4,none⟩)] w fun e w'=>∃sv,e=.returned sv/\w'.ownsRow w.heap.size 41 3 sv (L.opened.map jB).length (ax (L.opened.map jB))/\Below w.heap.size w w':=by
 obtain ⟨v4,c4,zs,z1,z2,z3,z4⟩:=h.opened;obtain ⟨m,f,rfl,-⟩:=az z2;have hlz:L.opened.length=zs.length:=by rw [z1];simp
 have hlt:=h.lt;obtain ⟨its,a⟩:∃its:Nat->List ItD,its=fun i=>((zs.map (·.1)).map jB).take i:=⟨_,rfl⟩
 have HI:Hid (its=fun i=>((zs.map (·.1)).map jB).take i):=a;have v:∀i,i<=zs.length->(its i).length=i:=fun i hi=>by rw [a];simp;omega
 have c:Hid ((L.opened.map jB)=its zs.length):=by
  show L.opened.map jB=its zs.length;rw [a,z1];exact (tO (by simp)).symm
 have hzl:zs.length<=3:=by omega
 rw [c.out];have HZ:Hid (w.ownsRow B 125 8 (.slice m zs.length f) zs.length (aT zs)):=z2;obtain ⟨i0,y,t,n,r⟩:=info_parts Yq.infoItem;have hbi:=vQ;clear h z1 z2 z3 z4 a;go_enter (Yq.nq func47),ntmps47;go_wp2_with fail
 go_loopw [3,5,11] (fun s3 _ s11 wr=>∃i:Nat,i<=zs.length/\s11=.int .i64 i/\wr.ownsRow w.heap.size 41 3 s3 i (ax (its i))/\Below w.heap.size w wr) (fun _ _ s11 _=>zs.length-(intOf s11).toNat)
 case atStart=>exact ⟨0,Nat.zero_le _,rfl,by rw [HI.out];exact ⟨rfl,.inl ⟨rfl,rfl⟩⟩,bR _ _⟩
 case round=>
  obtain ⟨i,hi,rfl,hown,hb⟩:=hrel;obtain ⟨so,sc,rfl,-⟩:=az hown;by_cases hlt2:i<zs.length
  .obtain ⟨g,cap,he⟩:∃g cap,Value.slice m zs.length f=.slice (some ⟨g,0,none⟩) zs.length cap:=by
    rcases HZ.out.2 with ⟨h1,h2⟩|⟨g,cap,cur,h1,-⟩
    .omega
    .exact ⟨g,cap,h1⟩
   cases he;obtain ⟨q0,q1,q2,q3,q4,q5,q6,q7⟩:=lU HZ.out i hlt2;replace q0:=aj hb q0;replace q1:=aj hb q1;replace q2:=aj hb q2;replace q3:=aj hb q3;replace q4:=aj hb q4;replace q5:=aj hb q5;replace q6:=aj hb q6;replace q7:=aj hb q7;have HS:Hid (its (i+1)=its i++[⟨0,⟨#[]⟩,zs[i].1.left⟩]):=by
    show its (i+1)=its i++[⟨0,⟨#[]⟩,zs[i].1.left⟩];rw [HI.out];simp only;rw [tS (by simpa using hlt2)];simp [jB]
   obtain ⟨O1,s⟩:∃O1,O1=Obj.cells #[.int .i64 zs[i].1.num,.pointer zs[i].2,.bool zs[i].1.q.vs,.string zs[i].1.q.p,.string zs[i].1.q.d,.string zs[i].1.q.af,.int .i64 zs[i].1.size,.int .i64 zs[i].1.left] 125:=⟨_,rfl⟩;obtain ⟨O2,l⟩:∃O2,O2=Obj.cells #[.int .i64 0,.string ⟨#[]⟩,.int .i64 zs[i].1.left] 41:=⟨_,rfl⟩;have b:Hid (((wr.alloc O1).alloc O2).ownsRow w.heap.size 41 3 (.slice so i sc) i (ax (its i))/\Below w.heap.size w wr/\∀k,(Value.slice so i sc).ownBlock=some k->w.heap.size<=k):=⟨(hown.alloc _).alloc _,hb,fun k e=>(hown.lt k e).1⟩;have HN:Hid (∀j u,[Value.int .i64 0,.string ⟨#[]⟩,.int .i64 zs[i].1.left][j]?=some u->((wr.alloc O1).alloc O2).cell? ((⟨wr.heap.size+1,0,none⟩:Ww).add j)=some u):=by
    rw [l];have:=zd (wr.alloc O1) (.int .i64 0) (.string ⟨#[]⟩) (.int .i64 zs[i].1.left) 41
    rwa [World.size_alloc] at this
   have hbs:=hb.size;rw [s,l] at b HN;clear hown hb;go_wp2_with (at_builtin;refine wpList_append_own _ rfl _ _ 34 rfl w.heap.size 41 i0 _ 3 32 (Yq.u underlying34) y t n r rfl (by decide) _ _ _ rfl b.out.1 ⟨wr.heap.size+1,0,none⟩ 1 1 [.int .i64 0,.string ⟨#[]⟩,.int .i64 zs[i].1.left] ?qa rfl ?qb ?qc ?qd ?qe ?qf ?_)
   case qa=>rfl
   case qb=>exact HN.out
   case qc=>simp [Value.oneCell']
   case qd=>simp only [maxLen];omega
   case qe=>omega
   case qf=>simp;omega
   intro v' w3 ho hg _;obtain ⟨x,o,rfl,-⟩:=az ho;have HE:Hid (w3.ownsRow w.heap.size 41 3 (.slice x (i+1) o) (i+1) (ax (its i)++[.int .i64 0,.string ⟨#[]⟩,.int .i64 zs[i].1.left])/\Below w.heap.size w w3):=
    ⟨ho,((b.out.2.1.alloc b.out.2.1.size _).alloc (by have:=b.out.2.1.size;simp;omega) _).grown hg (by simp;omega) b.out.2.2⟩
   clear ho hg;go_wp2_with fail
   refine ⟨⟨i+1,by omega,by go_num,?_,HE.out.2⟩,by simp [intOf];omega⟩;rw [HS.out,mB];exact HE.out.1
  .have:i=zs.length:=by omega
   subst this;go_wp2_with fail
   go_ret;refine ⟨_,rfl,?_,hb⟩;rw [v _ (lR _)];exact hown
theorem BA (w:Wz)(h:dr A B w k0 L)(a:ByteArray)(hf:eN a L.told=none):
  Calls Yq.prog 43 #[.pointer (some ⟨k0,4,none⟩),.string a] w fun e w'=>e=.returned (.tuple #[.agg #[.slice none 0 0,.string ⟨#[]⟩],.int .i64 9])/\ba A B k0 w L [] (.slice none 0 0) w':=by
 obtain ⟨mv,c6,hm⟩:=h.told;have hlt:=h.lt;have hlk:=lK (hm.left (am.refl.alloc (.cells #[.slice none 0 0,.string ⟨#[]⟩] 88))) a;rw [hf] at hlk;simp only [Option.getD_none,Option.isSome_none,plV] at hlk;have HL:Hid (dr A B w k0 L):=h;have hbp:=fm;clear h hm;go_enter (Yq.nq func43),ntmps43;go_wp2_with fail
 refine bodyPost_ret (v:=.tuple #[.agg #[.slice none 0 0,.string ⟨#[]⟩],.int .i64 9]) (by simp [results,results43,go_sem]) rfl ⟨rfl,ba.same HL.out ?_⟩;exact (am.refl.alloc _).alloc _
theorem BB (w:Wz)(h:dr A B w k0 L)(c:ByteArray)(n pg:Int)(hop:L.opened.length<=3)(hf:eN c L.told=some (n,pg))(hn:lW n L.opened=none):
  Calls Yq.prog 43 #[.pointer (some ⟨k0,4,none⟩),.string c] w fun e w'=>e=.returned (.tuple #[.agg #[.slice none 0 0,.string ⟨#[]⟩],.int .i64 10])/\ba A B k0 w L [] (.slice none 0 0) w':=by
 obtain ⟨mv,c6,hm⟩:=h.told;obtain ⟨v4,c4,zs,z1,z2,z3,z4⟩:=h.opened;obtain ⟨f,d,rfl,-⟩:=az z2;have hlz:L.opened.length=zs.length:=by rw [z1];simp
 have hlt:=h.lt;have hk1:k0<w.heap.size+1:=by omega
 have hlk:=lK (hm.left (am.refl.alloc (.cells #[.slice none 0 0,.string ⟨#[]⟩] 88))) c;rw [hf] at hlk;simp only [Option.getD_some,Option.isSome_some,plV] at hlk;obtain ⟨W,b⟩:∃W,W=(w.alloc (.cells #[.slice none 0 0,.string ⟨#[]⟩] 88)).alloc (.cells #[.int .i64 n,.int .i64 pg] 129):=⟨_,rfl⟩;have a:am w W:=by rw [b];exact (am.refl.alloc _).alloc _
 have hIX:=xy B f d zs (w.heap.size+1) n W (aZ z2 fun g _ hg=>a.block g hg) (by omega) (by
  rw [b];have:=cA (w:=w.alloc (.cells #[.slice none 0 0,.string ⟨#[]⟩] 88)) #[.int .i64 n,.int .i64 pg] 129 (w.heap.size+1) 0 (by simp);rw [this];rfl)
 rw [<-z1,hn] at hIX;simp only [Option.map_none,Option.getD_none] at hIX;have HL:Hid (dr A B w k0 L/\am w W):=⟨h,a⟩;have HF:Hid (∀w1,Below W.heap.size W w1->w1.cell? ⟨w.heap.size,0,none⟩=some (.slice none 0 0)/\w1.cell? ⟨w.heap.size,1,none⟩=some (.string ⟨#[]⟩)/\w1.frozen? ⟨w.heap.size,0,none⟩=false/\w1.frozen? ⟨w.heap.size,1,none⟩=false):=fun w1 hb=>by
  have e:w1.heap[w.heap.size]?=some (.cells #[.slice none 0 0,.string ⟨#[]⟩] 88):=by
   rw [hb.block _ (by rw [b];simp;omega),b,bA _ _ _ (by simp)];exact aN _ _
  exact ⟨by simp [World.cell?,e],by simp [World.cell?,e],by simp [World.frozen?,e],by simp [World.frozen?,e]⟩
 have i:Hid (W=(w.alloc (.cells #[.slice none 0 0,.string ⟨#[]⟩] 88)).alloc (.cells #[.int .i64 n,.int .i64 pg] 129)):=b;have hbp:=fm;have hWs:W.heap.size=w.heap.size+2:=by rw [b];simp
 clear h hm z1 z2 z3 z4 a;subst b;go_enter (Yq.nq func43),ntmps43;go_wp2_with (go_at_call 71;refine hIX.mono ?_;clear hIX;rintro e w1 ⟨rfl,hb1⟩;obtain ⟨s0,s1,u0,u1⟩:=HF.out w1 hb1)
 refine bodyPost_ret (v:=.tuple #[.agg #[.slice none 0 0,.string ⟨#[]⟩],.int .i64 10]) (by simp [results,results43,go_sem,s0,s1]) rfl ⟨rfl,ba.same HL.out.1 ?_⟩;exact ((HL.out.2.trans (.below hb1)).set (lR _) _ _).set (lR _) _ _
end
theorem cw.set {w:Wz}{b j:Nat}{x:Wq}(h:cw w b):cw (w.setCell ⟨b,j,none⟩ x) b:=by
 obtain ⟨a,e1,e2⟩:=h;cases a with
 |cells xs e z=>
  obtain ⟨g1,g2⟩:=eS e1;refine ⟨.cells (xs.setIfInBounds j x) e z,?_,rfl⟩;show (w.heap.modify b _)[b]?=_;rw [eG (by rw [Array.size_modify];exact g1),Array.getElem_modify_self,g2];rfl
 |_=>cases e2
theorem cw.of_block {w w':Wz}{b:Nat}(h:cw w b)(e:w'.heap[b]?=w.heap[b]?):cw w' b:=by
 obtain ⟨o,h1,h2⟩:=h;exact ⟨o,e.trans h1,h2⟩
section
variable {A:Nat->Prop} {B k0:Nat} {L L2:Lg} {w X W7 w8:Wz} {sv:Wq} {pg:List ItD} {r0:Nat}
def jh (A:Nat->Prop)(sv:Wq):Nat->Prop:=fun b=>A b\/sv.ownBlock=some b
theorem oy (h:dr A B X k0 L)(hl:am X W7)(a:W7.ownsRow X.heap.size 41 3 sv pg.length (ax pg)):dr (jh A sv) B W7 k0 L:=
 h.more hl (fun _ h=>.inl h) (fun b hb=>hb.imp id fun e=>(a.lt b e).1) (fun b hb=>by
  rcases hb with hb|hb
  .exact lL (h.inn b hb) hl.size
  .exact (a.lt b hb).2)
theorem BC (l:FrC k0 w X)(k:dA k0 W7 w8)(hw:∀b,A b->b<w.heap.size)(hd:aJ A B k0 w X)(hl:am X W7)(c:W7.ownsRow X.heap.size 41 3 sv pg.length (ax pg))(h8:dr (jh A sv) B w8 k0 L2)(m:aJ (jh A sv) B k0 W7 w8)(k4:w8.cell? ⟨k0,4,none⟩=X.cell? ⟨k0,4,none⟩)(hr1:w.heap.size<=r0)(hr2:r0<X.heap.size)(hB:B<=w.heap.size)(hv:∀v g,X.cell? ⟨k0,4,none⟩=some v->v.ownBlock=some g->g≠r0)(hc:cw w8 r0)(y0 y1:Wq):
  ba A B k0 w L2 pg sv ((w8.setCell ⟨r0,0,none⟩ y0).setCell ⟨r0,1,none⟩ y1):=by
 have hlow:=h8.low;have d:¬jh A sv r0:=fun ha=>by
  rcases ha with ha|ha
  .have:=hw _ ha;omega
  .have:=(c.lt _ ha).1;omega
 have hk:r0≠k0:=by omega
 have h9:=h8.other (j:=0) (x:=y0) hk d hc (fun v g e=>hv v g (k4.symm.trans e));have i:(w8.setCell ⟨r0,0,none⟩ y0).cell? ⟨k0,4,none⟩=w8.cell? ⟨k0,4,none⟩:=cB (a:=⟨k0,4,none⟩) (bS _ _ _ _ (show k0≠r0 by omega));have h10:=h9.other (j:=1) (x:=y1) hk d hc.set (fun v g e=>hv v g (k4.symm.trans (i.symm.trans e)));have hlt:k0<X.heap.size:=by have:=hd.size;omega
 have f:aJ (jh A sv) B k0 W7 ((w8.setCell ⟨r0,0,none⟩ y0).setCell ⟨r0,1,none⟩ y1):=(m.trans (aJ.other hk d (by omega))).trans (aJ.other hk d (by omega));refine ⟨jh A sv,fun _ h=>.inl h,fun b hb=>?_,h10,(hd.trans (aJ.left hlt hl)).trans (f.mono fun _ h=>.inl h),?_,?_⟩
 .rcases hb with hb|hb
  .exact .inl hb
  .have:=(c.lt b hb).1;have:=hd.size;exact .inr (by omega)
 .exact lQ (eO c fun g hg=>f.tree g (.inr hg) (c.lt g hg).2) (fun g hg=>.inr hg)
 .have n:W7.cell? ⟨k0,4,none⟩=X.cell? ⟨k0,4,none⟩:=cB (a:=⟨k0,4,none⟩) (hl.block k0 hlt);have q:=(l.trans (FrC.left hlt hl)).trans (FrC.keepC k (k4.trans n.symm));exact (q.fresh (by omega) hk).fresh (by omega) hk
theorem DU (d:FrC k0 w X)(h:dr A B X k0 L)(hw:∀b,A b->b<w.heap.size)(hd:aJ A B k0 w X)(hl:am X W7)(c:W7.ownsRow X.heap.size 41 3 sv pg.length (ax pg))(e:w.heap.size<=r0)(hr2:r0<X.heap.size)(f:B<=w.heap.size)(hv:∀v g,X.cell? ⟨k0,4,none⟩=some v->v.ownBlock=some g->g≠r0)(hc:cw X r0)(y0 y1:Wq):
  ba A B k0 w L pg sv ((W7.setCell ⟨r0,0,none⟩ y0).setCell ⟨r0,1,none⟩ y1):=by
 have h7:=oy h hl c;exact BC d (dA.refl _ _) hw hd hl c h7 aJ.refl (cB (a:=⟨k0,4,none⟩) (hl.block k0 h.lt)) e hr2 f hv (hc.of_block (hl.block r0 hr2)) y0 y1
theorem DV (k:FrC k0 w X)(h:dr A B X k0 L)(hw:∀b,A b->b<w.heap.size)(hd:aJ A B k0 w X)(hl:am X W7)(c:W7.ownsRow X.heap.size 41 3 sv pg.length (ax pg))(f:w.heap.size<=r0)(hr2:r0<X.heap.size)(n:B<=w.heap.size)(hv:∀v g,X.cell? ⟨k0,4,none⟩=some v->v.ownBlock=some g->g≠r0)(hc:cw X r0)(tk:ByteArray)(j:Int×Int):
  Calls Yq.prog 70 #[.pointer (some ⟨k0,4,none⟩),.string tk,plV j] W7 fun e w8=>e=.returned (.tuple #[])/\dA k0 W7 w8/\∀y0 y1,ba A B k0 w {L with told:=mF tk j L.told} pg sv ((w8.setCell ⟨r0,0,none⟩ y0).setCell ⟨r0,1,none⟩ y1):=by
 have h7:=oy h hl c;have hlow:=h.low;have:=hd.size;have:=hl.size;refine (Bw W7 h7 (by omega) tk j).mono ?_;rintro e w8 ⟨rfl,h8,l,d,m⟩;refine ⟨rfl,d,fun y0 y1=>?_⟩;have hc7:=hc.of_block (hl.block r0 hr2);have i:cw w8 r0:=by
  obtain ⟨o,e1,e2⟩:=hc7;exact ⟨o,d.2.2 r0 o e1 e2 (by omega),e2⟩
 exact BC k d hw hd hl c h8 l ((m 4 (by omega)).trans (cB (a:=⟨k0,4,none⟩) (hl.block k0 h.lt))) f hr2 n hv i y0 y1
end
theorem bW {P:Program}{ops:Array Oper}{o:Oper}{a:Act}{w:Wz}{K:Act->Wz->Prop}{Q:Exit->Act->Wz->Prop}{E:Prop}
  (hg:o.guard=none) (f:FuncId) (xs:Array Operand) (ts:Array TypeId) (c:o.op=Op.call {callee:=Callee.value (.func f),args:=xs,argTypes:=ts})
  (args:Array Wq) (hx:xs.map a.eval=args) (b:(callFunc f args).run P w=.ok (.enter f args) w)
  (R:Wq->Wz->Prop) (S:List PanicEntry->Wz->Prop) (i:Calls P f args w fun e w'=>(∃v,e=.returned v/\R v w')\/∃ch,e=.panicked ch/\S ch w') (hS:∀ch w',S ch w'->Q (.panic ch) a w') (h:∀v w',R v w'->K (a.put o.dst v) w'):
  if Region.wanted o (yielded ops a.tmps)=true then Oper.wp P o a w K Q else E:=by
 have hw:Region.wanted o (yielded ops a.tmps)=true:=by simp [Region.wanted,hg]
 rw [if_pos hw];subst hx;unfold Oper.wp;have e:(execOp a.eval o).run P w=.ok (.enter f (xs.map a.eval)) w:=by
  have e1:execOp a.eval o=(do let d <-resolve a.eval {callee:=Callee.value (.func f),args:=xs,argTypes:=ts} o.type;invoke d.target d.args):=by simp only [execOp,c]
  rw [e1];simpa [resolve,Deferred.ofValue,Act.eval,invoke] using b
 rw [e,Oper.upon_enter];refine i.mono ?_;rintro e w' (⟨v,rfl,hr⟩|⟨ch,rfl,hs⟩)
 .exact h v w' hr
 .exact hS ch w' hs
noncomputable def ED:Code:=cy (cy (cy (cy (cy (cy (cy (bu Tryz.f43)))))))
def tW (k0 r0 a bx:Nat)(u:Nat->Wq):Array Wq:=
 #[.pointer (some ⟨k0,4,none⟩),u 1,u 2,u 3,.pointer (some ⟨r0,0,none⟩),u 5,.pointer (some ⟨a,0,none⟩),u 7,u 8,.pointer (some ⟨bx,0,none⟩),u 10,u 11,u 12,u 13,u 14,u 15,u 16,u 17,u 18,u 19,u 20,u 21,u 22,u 23,u 24,u 25,u 26,u 27,u 28,u 29,u 30,u 31,u 32,u 33,u 34,u 35,u 36,u 37,u 38,u 39,u 40,u 41,u 42,u 43,u 44,u 45,u 46,u 47,u 48,u 49,u 50,u 51,u 52,u 53,u 54,u 55,u 56,u 57,u 58,u 59,u 60,u 61]
section
variable {A:Nat->Prop} {B k0:Nat} {L:Lg}
theorem BD (Qok:Qy->Prop){w X W7:Wz}{r0 f bx:Nat}{u:Nat->Wq}{so:Option Ww}{q sc:Nat}{tk:ByteArray}{n pg:Int}{d:List ItD}(j:FrC k0 w X)(h:dr A B X k0 L)(hw:∀b,A b->b<w.heap.size)(hd:aJ A B k0 w X)(hl:am X W7)(c:W7.ownsRow X.heap.size 41 3 (.slice so q sc) d.length (ax d))(l:w.heap.size<=r0)(hr2:r0<X.heap.size)(t:B<=w.heap.size)(hv:∀v g,X.cell? ⟨k0,4,none⟩=some v->v.ownBlock=some g->g≠r0)
  (b0:X.heap[r0]?=some (.cells #[.slice none 0 0,.string ⟨#[]⟩] 88)) (r:X.heap[f]?=some (.cells #[.int .i64 n,.int .i64 pg] 129)) (c0:W7.cell? ⟨bx,0,none⟩=some (.slice so q sc)) (c1:W7.cell? ⟨bx,1,none⟩=some (.string tk)) (hbx:X.heap.size<=bx) (_hbt:w.heap.size<=f) (hpg:0<=pg/\pg<2199023255552):
  ED.wp Yq.prog (bodyPost Yq.prog Tryz.f43 fun e w'=>(∃sv,e=.returned (.tuple #[.agg #[sv,.string tk],.int .i64 0])/\ba A B k0 w ⟨L.opened,L.begun,if tk=⟨#[]⟩ then L.told else mF tk (n,pg+1) L.told,L.tm⟩ d sv w')\/Stop Qok e w') ⟨tW k0 r0 f bx u,[]⟩ W7:=by
 have hlow:=h.low;have hlt:=h.lt;have hsX:=hd.size;have hs7:=hl.size;have hk:k0≠r0:=by omega
 have i:cw X r0:=⟨_,b0,rfl⟩;have e0:W7.heap[r0]?=some (.cells #[.slice none 0 0,.string ⟨#[]⟩] 88):=(hl.block r0 hr2).trans b0;have o:f<X.heap.size:=(eS r).1;have e1:W7.heap[f]?=some (.cells #[.int .i64 n,.int .i64 pg] 129):=(hl.block f o).trans r;have s0:W7.cell? ⟨r0,0,none⟩=some (.slice none 0 0):=by simp [World.cell?,e0]
 have s1:W7.cell? ⟨r0,1,none⟩=some (.string ⟨#[]⟩):=by simp [World.cell?,e0]
 have y0:W7.frozen? ⟨r0,0,none⟩=false:=by simp [World.frozen?,e0]
 have y1:W7.frozen? ⟨r0,1,none⟩=false:=by simp [World.frozen?,e0]
 have p0:W7.cell? ⟨f,0,none⟩=some (.int .i64 n):=by simp [World.cell?,e1]
 have p1:W7.cell? ⟨f,1,none⟩=some (.int .i64 pg):=by simp [World.cell?,e1]
 have HL:=DU j h hw hd hl c l hr2 t hv i;have HK:=DV j h hw hd hl c l hr2 t hv i tk (n,pg+1);have hwr:wrap64 (pg+1)=pg+1:=by unfold wrap64;omega
 have hbq:=ox;have s:Hid (∀y0 y1,ba A B k0 w L d (.slice so q sc) ((W7.setCell ⟨r0,0,none⟩ y0).setCell ⟨r0,1,none⟩ y1)):=HL;unfold plV at HK;generalize hQ:bodyPost Yq.prog Tryz.f43 _=Q;have HQ:Hid (bodyPost Yq.prog Tryz.f43 _=Q):=hQ;clear hQ HL h hw hd hl c j hv b0 r e0 e1 i;unfold tW;dsimp only [ED,bu,Tryz.f43,gN,cy,Option.getD];by_cases htk:tk=⟨#[]⟩
 .subst htk;go_wp2_with fail
  rw [<-HQ.out];refine bodyPost_ret (v:=.tuple #[.agg #[.slice so q sc,.string ⟨#[]⟩],.int .i64 0]) (by simp [results,results43,go_sem,s0,s1]) rfl (.inl ⟨_,rfl,?_⟩);simp only [if_true];exact s.out _ _
 .have m:¬tk.toList=[]:=fun hx=>by
   have:(tk==(⟨#[]⟩:ByteArray))=true:=by rw [beq_toListBytes];simpa using hx
   exact htk ((MapKept.bytes_beq _ _).1 this)
  have hne:(tk.toList == [])=false:=by simpa using m
  have p:bx≠k0:=by omega
  go_wp2_with (go_at_call 70;refine HK.mono ?_;clear HK;rintro e w8 ⟨rfl,a,k⟩;have c0':=a.cell c0 p;have c1':=a.cell c1 p;have s0':=a.cell s0 hk.symm;have s1':=a.cell s1 hk.symm;have y0':=(a.frozen s0 hk.symm).trans y0;have y1':=(a.frozen s1 hk.symm).trans y1)
  rw [<-HQ.out];refine bodyPost_ret (v:=.tuple #[.agg #[.slice so q sc,.string tk],.int .i64 0]) (by simp [results,results43,go_sem,s0',s1']) rfl (.inl ⟨_,rfl,?_⟩);rw [if_neg htk];exact k _ _
theorem BE (Qok:Qy->Prop)(hQ:∀q,Qok q->ii q/\ij q)(w:Wz)(h:dr A B w k0 L)(hB:B<=w.heap.size)(C:ByteArray)(n pg:Int)(i:Nat)(x:LsA)(hop:L.opened.length<=3)(hf:eN C L.told=some (n,pg))(hn:lW n L.opened=some i)(hx:L.opened[i]?=some x)(hq:Qok x.q)(y:gt (cu x.f x.q.p.data.toList)<=1000)(hp:x.q.p.size<=maxLen)(a1:0<=pg/\pg<2199023255552)(G:Wz->Prop)(R:∀w',G w'->cU w')(hG:∀w',aJ A B k0 w w'->G w')(hT:kE G n (pg+1)):
  Calls Yq.prog 43 #[.pointer (some ⟨k0,4,none⟩),.string C] w fun e w'=>
   (∃sv,e=.returned (.tuple #[.agg #[sv,.string (x.tok pg)],.int .i64 0])/\ba A B k0 w ⟨L.opened.set i (x.again 10),L.begun,if x.tok pg=⟨#[]⟩ then L.told else mF (x.tok pg) (n,pg+1) L.told,L.tm⟩ (x.page pg) sv w')\/Stop Qok e w':=by
 obtain ⟨mv,c6,hm⟩:=h.told;obtain ⟨v4,c4,zs,z1,z2,z3,z4⟩:=h.opened;have a3:L.opened.length=zs.length:=by rw [z1];simp
 have I:x.num=n:=by
  obtain ⟨h1,h2,-⟩:=List.findIdx?_eq_some_iff_getElem.1 hn;rw [List.getElem?_eq_getElem h1] at hx;cases hx;simpa using h2
 have hi:i<zs.length:=by rw [<-a3];exact (sL hx).1
 have S:zs[i].1=x:=by
  rw [z1,List.getElem?_map,List.getElem?_eq_getElem hi] at hx;simpa using hx
 obtain ⟨g,cap,hv4⟩:∃g cap,v4=.slice (some ⟨g,0,none⟩) zs.length cap:=by
  rcases z2.2 with ⟨h1,h2⟩|⟨g,cap,a0,h1,-⟩
  .omega
  .exact ⟨g,cap,h1⟩
 subst hv4;have Z:¬A g:=z3 g rfl;have hgw:=(z2.lt g rfl);have hlt:=h.lt;have hlow:=h.low;have hk1:k0<w.heap.size+1:=by omega
 have hlk:=lK (hm.left (am.refl.alloc (.cells #[.slice none 0 0,.string ⟨#[]⟩] 88))) C;rw [hf] at hlk;simp only [Option.getD_some,Option.isSome_some,plV] at hlk;obtain ⟨W,K⟩:∃W,W=(w.alloc (.cells #[.slice none 0 0,.string ⟨#[]⟩] 88)).alloc (.cells #[.int .i64 n,.int .i64 pg] 129):=⟨_,rfl⟩;have F:am w W:=by rw [K];exact (am.refl.alloc _).alloc _
 have hWs:W.heap.size=w.heap.size+2:=by rw [K];simp
 have M:W.heap[w.heap.size]?=some (.cells #[.slice none 0 0,.string ⟨#[]⟩] 88):=by
  rw [K,bA _ _ _ (by simp)];exact aN _ _
 have E:W.heap[w.heap.size+1]?=some (.cells #[.int .i64 n,.int .i64 pg] 129):=by
  rw [K];have:=aN (w.alloc (.cells #[.slice none 0 0,.string ⟨#[]⟩] 88)) (.cells #[.int .i64 n,.int .i64 pg] 129)
  rwa [World.size_alloc] at this
 have hIX:=xy B (some ⟨g,0,none⟩) cap zs (w.heap.size+1) n W (aZ z2 fun g _ hg=>F.block g hg) (by omega) (by simp [World.cell?,E]);rw [<-z1,hn] at hIX;simp only [Option.map_some,Option.getD_some] at hIX;obtain ⟨tk,htk⟩:∃tk,tk=x.tok pg:=⟨_,rfl⟩;obtain ⟨m,o⟩:∃m,m=x.page pg:=⟨_,rfl⟩;have HA:Hid (∀w1,Below W.heap.size W w1->(w1.cell? ⟨k0,4,none⟩=some (.slice (some ⟨g,0,none⟩) zs.length cap)/\w1.frozen? ⟨g,i * 8+7,none⟩=false/\w1.cell? ⟨g,i * 8+7,none⟩=some (.int .i64 x.left)) /\
   (∀X,X=w1.setCell ⟨g,i * 8+7,none⟩ (.int .i64 10)->dr A B X k0 {L with opened:=L.opened.set i (x.again 10)}/\aJ A B k0 w X/\ai A 41 X zs[i].2 x.f/\(X.cell? ⟨k0,4,none⟩=some (.slice (some ⟨g,0,none⟩) zs.length cap)/\k0<X.heap.size/\g<X.heap.size/\w.heap.size+2<=X.heap.size) /\
    (X.cell? ⟨g,i * 8,none⟩=some (.int .i64 n)/\X.cell? ⟨g,i * 8+1,none⟩=some (.pointer zs[i].2)/\X.cell? ⟨g,i * 8+2,none⟩=some (.bool x.q.vs)/\X.cell? ⟨g,i * 8+3,none⟩=some (.string x.q.p)/\X.cell? ⟨g,i * 8+4,none⟩=some (.string x.q.d)/\X.cell? ⟨g,i * 8+5,none⟩=some (.string x.q.af)/\X.cell? ⟨g,i * 8+6,none⟩=some (.int .i64 x.size)/\X.cell? ⟨g,i * 8+7,none⟩=some (.int .i64 10)) /\
    X.heap[w.heap.size]?=some (.cells #[.slice none 0 0,.string ⟨#[]⟩] 88)/\X.heap[w.heap.size+1]?=some (.cells #[.int .i64 n,.int .i64 pg] 129)/\FrC k0 w X)):=fun w1 hb1=>by
  have hl1:am w w1:=F.trans (.below hb1);have H:w1.ownsRow B 125 8 (.slice (some ⟨g,0,none⟩) zs.length cap) zs.length (aT zs):=aZ z2 fun g _ hg=>hl1.block g hg
  have q7:=(lU H i hi).2.2.2.2.2.2.2;rw [S] at q7;have hfz:w1.frozen? ⟨g,i * 8+7,none⟩=false:=by
   rcases H.2 with ⟨h1,-⟩|⟨g',cap',a0,h1,-,hr,-⟩
   .cases h1
   .cases h1;simp [World.frozen?,hr]
  refine ⟨⟨hl1.cell c4,hfz,q7⟩,fun X hX=>?_⟩;obtain ⟨s1,s2,s3,s4⟩:=(h.left hl1).setLeft (hl1.cell c4) z1 H Z (fun z hz=>ai.keep (fun b hb hb2=>⟨hb,hl1.block b hb2⟩) 41 _ _ (z4 z hz)) i hi 10;rw [S] at s1 s3 s4;rw [<-hX] at s1 s2 s3 s4;have Q:(zs.set i (x.again 10,zs[i].2))[i]?=some (x.again 10,zs[i].2):=by simp [hi]
  have hi2:i<(zs.set i (x.again 10,zs[i].2)).length:=by simpa using hi
  have ar:X.ownsRow B 125 8 (.slice (some ⟨g,0,none⟩) (zs.set i (x.again 10,zs[i].2)).length cap) (zs.set i (x.again 10,zs[i].2)).length (aT (zs.set i (x.again 10,zs[i].2))):=by simpa using s3
  have hc:=lU ar i hi2;have e1:(zs.set i (x.again 10,zs[i].2))[i]=(x.again 10,zs[i].2):=by simp
  rw [e1] at hc;have hsz:=hl1.size;have hXs:X.heap.size=w1.heap.size:=by rw [hX];simp
  have D:∀b,b≠g->X.heap[b]?=w1.heap[b]?:=fun b hb=>by rw [hX];exact bS _ _ _ _ hb
  have hW1:=hb1.size;refine ⟨s1,(aJ.left hlt hl1).trans s2,s4 (x.again 10,zs[i].2) (List.mem_iff_getElem?.2 ⟨i,Q⟩),⟨(cB (a:=⟨k0,4,none⟩) (D k0 (by omega))).trans (hl1.cell c4),by omega,by omega,by omega⟩,⟨by rw [<-I];exact hc.1,hc.2.1,hc.2.2.1,hc.2.2.2.1,hc.2.2.2.2.1,hc.2.2.2.2.2.1,hc.2.2.2.2.2.2.1,hc.2.2.2.2.2.2.2⟩,?_,?_,?_⟩
  .rw [D _ (by omega),hb1.block _ (by omega)];exact M
  .rw [D _ (by omega),hb1.block _ (by omega)];exact E
  .rw [hX];exact (FrC.left hlt hl1).trans (FrC.open ⟨_,hl1.cell c4,rfl⟩ (by omega))
 have HP:Hid (∀w1 X,Below W.heap.size W w1->X=w1.setCell ⟨g,i * 8+7,none⟩ (.int .i64 10)->∀V,am X V->Calls Yq.prog 69 #[.agg #[.int .i64 n,.pointer zs[i].2,.bool x.q.vs,.string x.q.p,.string x.q.d,.string x.q.af,.int .i64 x.size,.int .i64 10],.int .i64 pg] V fun e w'=>(∃v,e=.returned v/\(∃so k sc,v=.agg #[.slice so k sc,.string tk]/\w'.ownsRow V.heap.size 41 3 (.slice so k sc) m.length (ax m)/\am V w'))\/∃ch,e=.panicked ch/\Stop Qok (.panicked ch) w'):=fun w1 X hb1 hX V U=>by
  obtain ⟨-,s⟩:=HA.out w1 hb1;obtain ⟨s1,s2,s3,s4,-⟩:=s X hX;have J:G1 Qok ((x.again 10).lst zs[i].2) x.f V:=⟨.of (ai.keep (A':=fun _=>True) (fun b _ hlt=>⟨trivial,U.block b hlt⟩) 41 _ _ s3),hq,y,hp,R _ (hG _ (s2.trans (aJ.left s4.2.1 U)))⟩;have Y:IntKind.i64.wrap (pg+1)=pg+1:=by rw [lI];unfold wrap64;omega
  have HP0:=vG Qok hQ ((x.again 10).lst zs[i].2) pg x.f V J G (fun w' hl=>hG w' ((s2.trans (aJ.left s4.2.1 U)).trans (aJ.left (lL s4.2.1 U.size) hl))) (fun _=>by
   rw [Y];show kE G x.num (pg+1);rw [I];exact hT)
  rw [show lV ((x.again 10).lst zs[i].2)=.agg #[.int .i64 n,.pointer zs[i].2,.bool x.q.vs,.string x.q.p,.string x.q.d,.string x.q.af,.int .i64 x.size,.int .i64 10] by rw [<-I];rfl] at HP0;refine HP0.mono ?_;rintro e w' (⟨sv,rfl,h3,h4⟩|hs)
  .left
   rw [il (l:=(x.again 10).lst zs[i].2) (l':=x.lst none) rfl] at h3;obtain ⟨so,k,rfl,-⟩:=az h3;rw [htk,o];exact ⟨_,rfl,so,_,k,rfl,h3,h4⟩
  .obtain ⟨a,b,r,rfl,hst⟩:=hs;exact .inr ⟨_,rfl,a,b,r,rfl,hst⟩
 have O:Hid (∀ (args:Array Wq) (wx:Wz),(callFunc 69 args).run Yq.prog wx=.ok (.enter 69 args) wx):=fun args wx=>by go_simp
 have HW:Hid (∀b,A b->b<w.heap.size):=h.inn;have hiI:¬((i:Int)<0):=by omega
 have hbp:=fm;rw [<-htk,<-o];clear htk o;clear h hm z1 z2 z3 z4 F M E hq y hp hG R hT hQ hx hn hf;subst K;go_enter (Yq.nq func43),ntmps43
 go_upto_region 8 with (go_at_call 71;refine hIX.mono ?_;clear hIX;rintro e w1 ⟨rfl,hb1⟩;obtain ⟨⟨m4,f7,q7⟩,-⟩:=HA.out w1 hb1)
 obtain ⟨X,hX⟩:∃X,X=w1.setCell ⟨g,i * 8+7,none⟩ (.int .i64 10):=⟨_,rfl⟩;rw [<-hX];obtain ⟨-,s⟩:=HA.out w1 hb1;obtain ⟨s1,s2,s3,⟨x4,xk,xg,xs⟩,⟨q0,q1,q2,q3,q4,q5,q6,q8⟩,b0,T,P⟩:=s X hX;have p0:X.cell? ⟨w.heap.size+1,0,none⟩=some (.int .i64 n):=by simp [World.cell?,T]
 have p1:X.cell? ⟨w.heap.size+1,1,none⟩=some (.int .i64 pg):=by simp [World.cell?,T]
 have xw:w.heap.size+1<X.heap.size:=by omega
 have HS:Hid (dr A B X k0 {L with opened:=L.opened.set i (x.again 10)}/\aJ A B k0 w X/\X.heap[w.heap.size]?=some (.cells #[.slice none 0 0,.string ⟨#[]⟩] 88)/\X.heap[w.heap.size+1]?=some (.cells #[.int .i64 n,.int .i64 pg] 129)/\X=w1.setCell ⟨g,i * 8+7,none⟩ (.int .i64 10)):=⟨s1,s2,b0,T,hX⟩;have al:Hid (FrC k0 w X):=P;have HV:Hid (∀w2,am (X.alloc (.cells #[.slice none 0 0,.string ⟨#[]⟩] 88)).drew w2->w2.cell? ⟨X.heap.size,0,none⟩=some (.slice none 0 0)/\w2.cell? ⟨X.heap.size,1,none⟩=some (.string ⟨#[]⟩)/\w2.frozen? ⟨X.heap.size,0,none⟩=false/\w2.frozen? ⟨X.heap.size,1,none⟩=false):=fun w2 hl=>by
  have e:w2.heap[X.heap.size]?=some (.cells #[.slice none 0 0,.string ⟨#[]⟩] 88):=(hl.block _ (by simp)).trans (aN X _);exact ⟨by simp [World.cell?,e],by simp [World.cell?,e],by simp [World.frozen?,e],by simp [World.frozen?,e]⟩
 clear s s1 s2 s3 b0 T hX P;have ap:Hid (∀v g',X.cell? ⟨k0,4,none⟩=some v->v.ownBlock=some g'->g'≠w.heap.size):=fun v g' hv ab=>by
  rw [x4] at hv;cases hv;cases ab;show g≠w.heap.size;omega
 rename_i K1 hK1;have N:Hid (∀ (a:Act) (W7:Wz) (bx:Nat) (so:Option Ww) (k sc:Nat),a=⟨tW k0 w.heap.size (w.heap.size+1) bx (fun i=>a.tmps.getD i undef),[]⟩->am X W7->W7.ownsRow X.heap.size 41 3 (.slice so k sc) m.length (ax m)->W7.cell? ⟨bx,0,none⟩=some (.slice so k sc)->W7.cell? ⟨bx,1,none⟩=some (.string tk)->X.heap.size<=bx->K1 a W7):=fun a W7 bx so k sc ha hl c c0 c1 a2=>by
  refine hK1 a W7 ?_;rw [ha];have:=BD (L:={L with opened:=L.opened.set i (x.again 10)}) Qok (u:=fun i=>a.tmps.getD i undef) al.out HS.out.1 HW.out HS.out.2.1 hl c (lR _) (by omega) hB ap.out HS.out.2.2.1 HS.out.2.2.2.1 c0 c1 a2 (by omega) a1;exact this
 have HFA:Hid (∀w2 so k sc,am X.drew w2->w2.ownsRow X.drew.heap.size 41 3 (.slice so k sc) m.length (ax m)->∀a,a=⟨tW k0 w.heap.size (w.heap.size+1) w2.heap.size (fun i=>a.tmps.getD i undef),[]⟩->K1 a (w2.alloc (.cells #[.slice so k sc,.string tk] 88))):=fun w2 so k sc j c a ha=>by
  have t:am X w2:=(am.refl.drew).trans j;refine N.out a _ w2.heap.size so k sc ha (t.alloc _) (aZ c fun g _ hg=>bA _ _ _ hg) ?_ ?_ t.size
  .rw [cA (w:=w2) _ _ w2.heap.size 0 rfl];rfl
  .rw [cA (w:=w2) _ _ w2.heap.size 1 rfl];rfl
 have ad:Hid (∀w2 so k sc,am (X.alloc (.cells #[.slice none 0 0,.string ⟨#[]⟩] 88)).drew w2->w2.ownsRow (X.alloc (.cells #[.slice none 0 0,.string ⟨#[]⟩] 88)).drew.heap.size 41 3 (.slice so k sc) m.length (ax m)->∀a,a=⟨tW k0 w.heap.size (w.heap.size+1) X.heap.size (fun i=>a.tmps.getD i undef),[]⟩->K1 a ((w2.setCell ⟨X.heap.size,0,none⟩ (.slice so k sc)).setCell ⟨X.heap.size,1,none⟩ (.string tk))):=fun w2 so k sc j c a ha=>by
  have t:am X w2:=((am.refl.alloc _).drew).trans j;obtain ⟨v0,v1,o0,o1⟩:=HV.out w2 j;have hbs:(X.alloc (.cells #[.slice none 0 0,.string ⟨#[]⟩] 88)).drew.heap.size=X.heap.size+1:=by simp
  refine N.out a _ X.heap.size so k sc ha ((t.set (lR _) _ _).set (lR _) _ _) (kw (aZ c fun g h1 hg=>?_) (by omega)) ?_ ?_ (lR _)
  .rw [bS _ _ _ _ (show g≠X.heap.size by omega),bS _ _ _ _ (show g≠X.heap.size by omega)]
  .rw [cO _ _ _ _ (aW (by omega))];exact cS _ _ _ (by rw [v0];rfl)
  .exact cS _ _ _ (by rw [cO _ _ _ _ (aW (by omega)),v1];rfl)
 clear hK1
 go_region_law (first
  |(refine bW rfl 69 #[.tmp 44,.tmp 46] #[125,3] rfl #[.agg #[.int .i64 n,.pointer zs[i].2,.bool x.q.vs,.string x.q.p,.string x.q.d,.string x.q.af,.int .i64 x.size,.int .i64 10],.int .i64 pg] (by simp [Act.eval]) (O.out _ _) _ (fun ch w'=>Stop Qok (.panicked ch) w') (HP.out w1 X hb1 HS.out.2.2.2.2 X.drew am.refl.drew) (fun ch w' hs=>⟨rfl,Or.inr hs⟩) ?_;rintro v w2 ⟨so,k,sc,rfl,c,j⟩;have HE:Hid (_/\_):=And.intro c j;clear c j)
  |(refine bW rfl 69 #[.tmp 44,.tmp 46] #[125,3] rfl #[.agg #[.int .i64 n,.pointer zs[i].2,.bool x.q.vs,.string x.q.p,.string x.q.d,.string x.q.af,.int .i64 x.size,.int .i64 10],.int .i64 pg] (by simp [Act.eval]) (O.out _ _) _ (fun ch w'=>Stop Qok (.panicked ch) w') (HP.out w1 X hb1 HS.out.2.2.2.2 (X.alloc (.cells #[.slice none 0 0,.string ⟨#[]⟩] 88)).drew (am.refl.alloc _).drew) (fun ch w' hs=>⟨rfl,Or.inr hs⟩) ?_;rintro v w2 ⟨so,k,sc,rfl,c,j⟩;obtain ⟨v0,v1,o0,o1⟩:=HV.out w2 j;have HE:Hid (_/\_):=And.intro c j;clear c j))
 all_goals first
  |exact HFA.out w2 so k sc HE.out.2 HE.out.1 _ rfl
  |exact ad.out w2 so k sc HE.out.2 HE.out.1 _ rfl
end
theorem F2 {A:Nat->Prop}{B k0:Nat}{L:Lg}(Qok:Qy->Prop)(hQ:∀q,Qok q->ii q/\ij q)(w:Wz)(h:dr A B w k0 L)(k:B<=w.heap.size)(a:ByteArray)(b:L.opened.length<=3)(c:∀x∈L.opened,Qok x.q/\gt (cu x.f x.q.p.data.toList)<=1000/\x.q.p.size<=maxLen)(j:∀n pg,eN a L.told=some (n,pg)->0<=pg/\pg<2199023255552)(G:Wz->Prop)(d:∀w',G w'->cU w')(hG:∀w',aJ A B k0 w w'->G w')(l:∀n pg,eN a L.told=some (n,pg)->(lW n L.opened).isSome=true->kE G n (pg+1)):
  Calls Yq.prog 43 #[.pointer (some ⟨k0,4,none⟩),.string a] w fun e w'=>
   (∃sv,e=.returned (.tuple #[.agg #[sv,.string (fD L a).2.2.1],.int .i64 (fD L a).2.2.2])/\ba A B k0 w (fD L a).1 (fD L a).2.1 sv w')\/Stop Qok e w':=by
 cases hf:eN a L.told with
 |none=>
  have e:fD L a=(L,[],⟨#[]⟩,9):=by simp [fD,hf]
  rw [e];exact (BA w h a hf).mono fun e w' h=>.inl ⟨_,h.1,h.2⟩
 |some x=>
  obtain ⟨n,pg⟩:=x;cases hn:lW n L.opened with
  |none=>
   have e:fD L a=(L,[],⟨#[]⟩,10):=by simp [fD,hf,hn]
   rw [e];exact (BB w h a n pg b hf hn).mono fun e w' h=>.inl ⟨_,h.1,h.2⟩
  |some i=>
   have hi:i<L.opened.length:=(List.findIdx?_eq_some_iff_getElem.1 hn).1;have hx:L.opened[i]?=some L.opened[i]:=List.getElem?_eq_getElem hi;have e:fD L a=(⟨L.opened.set i (L.opened[i].again 10),L.begun,if L.opened[i].tok pg=⟨#[]⟩ then L.told else mF (L.opened[i].tok pg) (n,pg+1) L.told,L.tm⟩,L.opened[i].page pg,L.opened[i].tok pg,0):=by simp [fD,hf,hn,hx]
   rw [e];obtain ⟨h1,h2,h3⟩:=c L.opened[i] (List.getElem_mem hi);exact BE Qok hQ w h k a n pg i L.opened[i] b hf hn hx h1 h2 h3 (j n pg hf) G d hG (l n pg hf (by simp [hn]))
section
variable {A:Nat->Prop} {B k0:Nat} {L:Lg}
theorem oz (Qok:Qy->Prop)(hQ:∀q,Qok q->ii q/\ij q)(w:Wz)(h:dr A B w k0 L)(_hB:B<=w.heap.size)(root:Option Ww)(f:List UInt8->List Ver)(q:Qy)(c:Int)(N:ai A 41 w root f)(hq:Qok q)(o:gt (cu f q.p.data.toList)<=1000)(hp:q.p.size<=maxLen)(hbg:0<=L.begun/\L.begun<2199023255552)(S:L.opened.length<=3)(G:Wz->Prop)(E:∀w',G w'->cU w')(hG:∀w',am w w'->G w')(Q:kE G (L.begun+1) 2)(J:(c<1\/20<c)\/(gp L f q c).tok 1=⟨#[]⟩\/3<=L.opened.length):
  Calls Yq.prog 40 #[.pointer (some ⟨k0,4,none⟩),sV root,qV q.vs q.p q.d q.af,.int .i64 c] w fun e w'=>
   (∃sv,e=.returned (.tuple #[.agg #[sv,.string (eP L f q c).2.2.1],.int .i64 (eP L f q c).2.2.2])/\ba A B k0 w (eP L f q c).1 (eP L f q c).2.1 sv w')\/Stop Qok e w':=by
 have c5:=h.begun;obtain ⟨v4,c4,zs,z1,z2,z3,z4⟩:=h.opened;obtain ⟨H,C,rfl,-⟩:=az z2;have hlz:L.opened.length=zs.length:=by rw [z1];simp
 have hlt:=h.lt;have HL:Hid (dr A B w k0 L):=h;obtain ⟨m,p,d,k⟩:=q;unfold sV qV;by_cases hsz:c<1\/20<c
 .have K:eP L f ⟨m,p,d,k⟩ c=(L,[],⟨#[]⟩,7):=by rw [eP,if_pos hsz]
  rw [K];have hbp:=fm;clear N hq o hp hbg S Q hG E h hQ z1 z2 z3 z4 c4 c5;rcases hsz with h1|h2
  .go_enter (Yq.nq func40),ntmps40;go_wp2_with fail
   refine bodyPost_ret (v:=.tuple #[.agg #[.slice none 0 0,.string ⟨#[]⟩],.int .i64 7]) (by simp [results,results40,go_sem]) rfl (.inl ⟨_,rfl,ba.same HL.out (((am.refl.alloc _).alloc _).alloc _)⟩)
  .have h1:¬c<1:=by omega
   go_enter (Yq.nq func40),ntmps40;go_wp2_with fail
   refine bodyPost_ret (v:=.tuple #[.agg #[.slice none 0 0,.string ⟨#[]⟩],.int .i64 7]) (by simp [results,results40,go_sem]) rfl (.inl ⟨_,rfl,ba.same HL.out (((am.refl.alloc _).alloc _).alloc _)⟩)
 .have h1:¬c<1:=by omega
  have h2:¬20<c:=by omega
  have hbl:=tU;have hbp:=fm;have hwb:wrap64 (L.begun+1)=L.begun+1:=by unfold wrap64;omega
  have hk1:k0<w.heap.size+1:=by omega
  have hk2:k0<w.heap.size+1+1:=by omega
  have hk3:k0<w.heap.size+1+1+1:=by omega
  obtain ⟨V,I⟩:∃V,V=((((w.alloc (.cells #[.pointer root] 56)).alloc (.cells #[.bool m,.string p,.string d,.string k] 93)).alloc (.cells #[.slice none 0 0,.string ⟨#[]⟩] 88)).alloc (.cells #[.int .i64 (L.begun+1),.pointer root,.bool m,.string p,.string d,.string k,.int .i64 c,.int .i64 10] 125)).drew:=⟨_,rfl⟩;have i:am w V:=by rw [I];exact ((((am.refl.alloc _).alloc _).alloc _).alloc _).drew
  have s:V.heap.size=w.heap.size+4:=by rw [I];simp
  have t:G1 Qok ((gp L f ⟨m,p,d,k⟩ c).lst root) f V:=⟨.of (ai.keep (A':=fun _=>True) (fun b _ hlt=>⟨trivial,i.block b hlt⟩) 41 root f N),hq,o,hp,E _ (hG _ i)⟩;have HP0:=vG Qok hQ ((gp L f ⟨m,p,d,k⟩ c).lst root) 1 f V t G (fun w' hl=>hG w' (i.trans hl)) (fun _=>Q);obtain ⟨tk,htk⟩:∃tk,tk=(gp L f ⟨m,p,d,k⟩ c).tok 1:=⟨_,rfl⟩;obtain ⟨pg,F⟩:∃pg,pg=(gp L f ⟨m,p,d,k⟩ c).page 1:=⟨_,rfl⟩;have HP:Calls Yq.prog 69 #[.agg #[.int .i64 (L.begun+1),.pointer root,.bool m,.string p,.string d,.string k,.int .i64 c,.int .i64 10],.int .i64 1] V fun e w'=>(∃so n sc,e=.returned (.agg #[.slice so n sc,.string tk])/\w'.ownsRow V.heap.size 41 3 (.slice so n sc) pg.length (ax pg)/\am V w')\/Stop Qok e w':=by
   refine HP0.mono ?_;rintro e w' (⟨sv,rfl,h3,h4⟩|h)
   .left
    rw [htk,F];rw [il (l:=(gp L f ⟨m,p,d,k⟩ c).lst root) (l':=(gp L f ⟨m,p,d,k⟩ c).lst none) rfl] at h3;obtain ⟨so,n,sc,rfl⟩:∃so n sc,sv=.slice so n sc:=by
     rcases h3.2 with ⟨rfl,-⟩|⟨g,cap,cur,rfl,-⟩
     .exact ⟨_,_,_,rfl⟩
     .exact ⟨_,_,_,rfl⟩
    exact ⟨so,n,sc,rfl,h3,h4⟩
   .exact .inr h
  clear HP0;have HF:Hid (∀w1,am V w1->((w1.cell? ⟨w.heap.size+1+1+1,0,none⟩=some (.int .i64 (L.begun+1))/\w1.cell? ⟨w.heap.size+1+1+1,1,none⟩=some (.pointer root)/\w1.cell? ⟨w.heap.size+1+1+1,2,none⟩=some (.bool m)/\w1.cell? ⟨w.heap.size+1+1+1,3,none⟩=some (.string p)/\w1.cell? ⟨w.heap.size+1+1+1,4,none⟩=some (.string d)/\w1.cell? ⟨w.heap.size+1+1+1,5,none⟩=some (.string k)/\w1.cell? ⟨w.heap.size+1+1+1,6,none⟩=some (.int .i64 c)/\w1.cell? ⟨w.heap.size+1+1+1,7,none⟩=some (.int .i64 10)) /\
    (w1.cell? ⟨w.heap.size+1+1,0,none⟩=some (.slice none 0 0)/\w1.cell? ⟨w.heap.size+1+1,1,none⟩=some (.string ⟨#[]⟩)/\w1.frozen? ⟨w.heap.size+1+1,0,none⟩=false/\w1.frozen? ⟨w.heap.size+1+1,1,none⟩=false) /\
    (w1.cell? ⟨k0,4,none⟩=some (.slice H zs.length C)/\w1.cell? ⟨k0,5,none⟩=some (.int .i64 L.begun)/\w1.frozen? ⟨k0,4,none⟩=false/\w1.frozen? ⟨k0,5,none⟩=false)/\(w.heap.size+1+1<w1.heap.size/\w.heap.size+1+1+1<w1.heap.size/\k0<w1.heap.size))):=fun w1 hl=>by
   have r3:V.heap[w.heap.size+3]?=some (.cells #[.int .i64 (L.begun+1),.pointer root,.bool m,.string p,.string d,.string k,.int .i64 c,.int .i64 10] 125):=by
    rw [I];simp only [World.drew,World.alloc,gP,Array.size_push]
    repeat rw [if_neg (by omega)]
    simp
   have r2:V.heap[w.heap.size+2]?=some (.cells #[.slice none 0 0,.string ⟨#[]⟩] 88):=by
    rw [I];simp only [World.drew,World.alloc,gP,Array.size_push]
    repeat rw [if_neg (by omega)]
    simp
   have e3:=(hl.block _ (by omega)).trans r3;have e2:=(hl.block _ (by omega)).trans r2;have hfz:∀j,w1.frozen? ⟨k0,j,none⟩=false:=fun j=>(fB (a:=⟨k0,j,none⟩) ((i.trans hl).block k0 hlt)).trans (HL.out.frozen j)
   have:=hl.size;refine ⟨⟨?_,?_,?_,?_,?_,?_,?_,?_⟩,⟨?_,?_,?_,?_⟩,⟨(i.trans hl).cell c4,(i.trans hl).cell c5,hfz 4,hfz 5⟩,by omega,by omega,by omega⟩;all_goals simp [World.cell?,World.frozen?,e3,e2]
  have HX:Hid (am w V/\ai A 41 w root f/\V.heap.size=w.heap.size+4):=⟨i,N,s⟩;have HZ:Hid (L.opened=zs.map (·.1)/\w.ownsRow B 125 8 (.slice H zs.length C) zs.length (aT zs)/\(∀g,(Value.slice H zs.length C).ownBlock=some g->¬A g)/\∀z∈zs,ai A 41 w z.2 z.1.f):=⟨z1,z2,z3,z4⟩;have HB:Hid (eP L f ⟨m,p,d,k⟩ c=(if tk=⟨#[]⟩ then (L,pg,⟨#[]⟩,0) else if 3<=L.opened.length then (L,[],⟨#[]⟩,8) else (⟨L.opened++[gp L f ⟨m,p,d,k⟩ c],L.begun+1,mF tk (L.begun+1,2) L.told,L.tm⟩,pg,tk,0))):=by
   show eP L f ⟨m,p,d,k⟩ c=_;rw [eP,if_neg hsz,htk,F]
  generalize eP L f ⟨m,p,d,k⟩ c=R at *;have HV:Hid (V=((((w.alloc (.cells #[.pointer root] 56)).alloc (.cells #[.bool m,.string p,.string d,.string k] 93)).alloc (.cells #[.slice none 0 0,.string ⟨#[]⟩] 88)).alloc (.cells #[.int .i64 (L.begun+1),.pointer root,.bool m,.string p,.string d,.string k,.int .i64 c,.int .i64 10] 125)).drew):=I;have O:Hid (tk=(gp L f ⟨m,p,d,k⟩ c).tok 1):=htk;clear I i s t htk F N z1 z2 z3 z4 hG E Q hq o hp h hQ;by_cases htk:tk=⟨#[]⟩
  .subst htk;have K:R=(L,pg,⟨#[]⟩,0):=by rw [HB.out,if_pos rfl]
   subst K;go_enter (Yq.nq func40),ntmps40;go_wp2_with fail
   go_region
   rw [<-HV.out];obtain ⟨⟨a0,Z,a2,a3,a4,a5,X,Y⟩,-⟩:=HF.out V am.refl;go_wp2_with (go_at_call 69;refine HP.mono ?_;clear HP;rintro e w1 (⟨so,n,sc,rfl,u,hl1⟩|⟨x,y,r,rfl,hst⟩);rotate_left;exact ⟨rfl,Or.inr ⟨x,y,r,rfl,hst⟩⟩;obtain ⟨⟨q0,q1,q2,q3,q4,q5,q6,q7⟩,⟨s0,s1,z0,z1⟩,⟨U,T,n4,n5⟩,y2,y3,yk⟩:=HF.out w1 hl1)
   obtain ⟨i,-,s⟩:=HX.out;have P:∀b,b≠w.heap.size+1+1->b<w1.heap.size->(((w1.setCell ⟨w.heap.size+1+1,0,none⟩ (.slice so n sc)).setCell ⟨w.heap.size+1+1,1,none⟩ (.string ⟨#[]⟩)).alloc (.cells #[.slice so n sc,.string ⟨#[]⟩] 88)).heap[b]?=w1.heap[b]?:=fun b h1 h2=>by
    rw [bA _ _ _ (by simpa using h2),bS _ _ _ _ h1,bS _ _ _ _ h1]
   have D:am w (((w1.setCell ⟨w.heap.size+1+1,0,none⟩ (.slice so n sc)).setCell ⟨w.heap.size+1+1,1,none⟩ (.string ⟨#[]⟩)).alloc (.cells #[.slice so n sc,.string ⟨#[]⟩] 88)):=(((i.trans hl1).set (by omega) _ _).set (by omega) _ _).alloc _;refine bodyPost_ret (v:=.tuple #[.agg #[.slice so n sc,.string ⟨#[]⟩],.int .i64 0]) (by simp [results,results40,go_sem,s0,s1,y2]) rfl (.inl ⟨_,rfl,ba.page HL.out D u (by omega) fun g h1 h2=>P g (by omega) h2⟩)
  .have M:¬tk.toList=[]:=fun hx=>by
    have:(tk==(⟨#[]⟩:ByteArray))=true:=by rw [beq_toListBytes];simpa using hx
    exact htk ((MapKept.bytes_beq _ _).1 this)
   have hne:(tk.toList == [])=false:=by simpa using M
   by_cases h3:3<=L.opened.length
   .have K:R=(L,[],⟨#[]⟩,8):=by rw [HB.out,if_neg htk,if_pos h3]
    subst K;have h3i:(3:Int)<=(zs.length:Int):=by omega
    go_enter (Yq.nq func40),ntmps40;go_wp2_with fail
    go_region
    rw [<-HV.out];obtain ⟨⟨a0,Z,a2,a3,a4,a5,X,Y⟩,-⟩:=HF.out V am.refl;go_wp2_with (go_at_call 69;refine HP.mono ?_;clear HP;rintro e w1 (⟨so,n,sc,rfl,u,hl1⟩|⟨x,y,r,rfl,hst⟩);rotate_left;exact ⟨rfl,Or.inr ⟨x,y,r,rfl,hst⟩⟩;obtain ⟨⟨q0,q1,q2,q3,q4,q5,q6,q7⟩,⟨s0,s1,z0,z1⟩,⟨U,T,n4,n5⟩,y2,y3,yk⟩:=HF.out w1 hl1)
    obtain ⟨i,-,s⟩:=HX.out;have D:am w (((w1.setCell ⟨w.heap.size+1+1,0,none⟩ (.slice none 0 0)).setCell ⟨w.heap.size+1+1,1,none⟩ (.string ⟨#[]⟩)).alloc (.cells #[.slice so n sc,.string tk] 88)):=(((i.trans hl1).set (by omega) _ _).set (by omega) _ _).alloc _;refine bodyPost_ret (v:=.tuple #[.agg #[.slice none 0 0,.string ⟨#[]⟩],.int .i64 8]) (by simp [results,results40,go_sem,s0,s1,y2]) rfl (.inl ⟨_,rfl,ba.same HL.out D⟩)
   .rcases J with h|h|h
    .exact absurd h hsz
    .rw [<-O.out] at h;exact absurd h htk
    .exact absurd h h3
theorem BF (Qok:Qy->Prop)(hQ:∀q,Qok q->ii q/\ij q)(w:Wz)(h:dr A B w k0 L)(hB:B<=w.heap.size)(root:Option Ww)(f:List UInt8->List Ver)(q:Qy)(c:Int)(hN:ai A 41 w root f)(hq:Qok q)(N:gt (cu f q.p.data.toList)<=1000)(hp:q.p.size<=maxLen)(hbg:0<=L.begun/\L.begun<2199023255552)(hop:L.opened.length<=3)(G:Wz->Prop)(ab:∀w',G w'->cU w')(hG:∀w',am w w'->G w')(hT:kE G (L.begun+1) 2)(hsz:¬(c<1\/20<c))(M:(gp L f q c).tok 1≠⟨#[]⟩)(h3:¬3<=L.opened.length):
    Calls Yq.prog 40 #[.pointer (some ⟨k0,4,none⟩),sV root,qV q.vs q.p q.d q.af,.int .i64 c] w fun e w'=>
      (∃sv,e=.returned (.tuple #[.agg #[sv,.string (eP L f q c).2.2.1],.int .i64 (eP L f q c).2.2.2])/\ba A B k0 w (eP L f q c).1 (eP L f q c).2.1 sv w')\/Stop Qok e w':=by
  have c5:=h.begun;obtain ⟨v4,c4,zs,z1,z2,z3,z4⟩:=h.opened;obtain ⟨t,n,rfl,-⟩:=az z2;have hlz:L.opened.length=zs.length:=by rw [z1];simp
  have hlt:=h.lt;have HL:Hid (dr A B w k0 L):=h;obtain ⟨k,p,d,i⟩:=q;unfold sV qV;have h1:¬c<1:=by omega
  have h2:¬20<c:=by omega
  have hbl:=tU;have hbp:=fm;have hwb:wrap64 (L.begun+1)=L.begun+1:=by unfold wrap64;omega
  have hk1:k0<w.heap.size+1:=by omega
  have hk2:k0<w.heap.size+1+1:=by omega
  have hk3:k0<w.heap.size+1+1+1:=by omega
  obtain ⟨V,S⟩:∃V,V=((((w.alloc (.cells #[.pointer root] 56)).alloc (.cells #[.bool k,.string p,.string d,.string i] 93)).alloc (.cells #[.slice none 0 0,.string ⟨#[]⟩] 88)).alloc (.cells #[.int .i64 (L.begun+1),.pointer root,.bool k,.string p,.string d,.string i,.int .i64 c,.int .i64 10] 125)).drew:=⟨_,rfl⟩;have D:am w V:=by rw [S];exact ((((am.refl.alloc _).alloc _).alloc _).alloc _).drew
  have U:V.heap.size=w.heap.size+4:=by rw [S];simp
  have K:G1 Qok ((gp L f ⟨k,p,d,i⟩ c).lst root) f V:=⟨.of (ai.keep (A':=fun _=>True) (fun b _ hlt=>⟨trivial,D.block b hlt⟩) 41 root f hN),hq,N,hp,ab _ (hG _ D)⟩;have HP0:=vG Qok hQ ((gp L f ⟨k,p,d,i⟩ c).lst root) 1 f V K G (fun w' hl=>hG w' (D.trans hl)) (fun _=>hT);obtain ⟨tk,htk⟩:∃tk,tk=(gp L f ⟨k,p,d,i⟩ c).tok 1:=⟨_,rfl⟩;obtain ⟨pg,Q⟩:∃pg,pg=(gp L f ⟨k,p,d,i⟩ c).page 1:=⟨_,rfl⟩;have HP:Calls Yq.prog 69 #[.agg #[.int .i64 (L.begun+1),.pointer root,.bool k,.string p,.string d,.string i,.int .i64 c,.int .i64 10],.int .i64 1] V fun e w'=>(∃so m sc,e=.returned (.agg #[.slice so m sc,.string tk])/\w'.ownsRow V.heap.size 41 3 (.slice so m sc) pg.length (ax pg)/\am V w')\/Stop Qok e w':=by
    refine HP0.mono ?_;rintro e w' (⟨sv,rfl,h3,h4⟩|h)
    . left
      rw [htk,Q];rw [il (l:=(gp L f ⟨k,p,d,i⟩ c).lst root) (l':=(gp L f ⟨k,p,d,i⟩ c).lst none) rfl] at h3;obtain ⟨so,m,sc,rfl⟩:∃so m sc,sv=.slice so m sc:=by
        rcases h3.2 with ⟨rfl,-⟩|⟨g,cap,cur,rfl,-⟩
        . exact ⟨_,_,_,rfl⟩
        . exact ⟨_,_,_,rfl⟩
      exact ⟨so,m,sc,rfl,h3,h4⟩
    . exact .inr h
  clear HP0;have HF:Hid (∀w1,am V w1->((w1.cell? ⟨w.heap.size+1+1+1,0,none⟩=some (.int .i64 (L.begun+1))/\w1.cell? ⟨w.heap.size+1+1+1,1,none⟩=some (.pointer root)/\w1.cell? ⟨w.heap.size+1+1+1,2,none⟩=some (.bool k)/\w1.cell? ⟨w.heap.size+1+1+1,3,none⟩=some (.string p)/\w1.cell? ⟨w.heap.size+1+1+1,4,none⟩=some (.string d)/\w1.cell? ⟨w.heap.size+1+1+1,5,none⟩=some (.string i)/\w1.cell? ⟨w.heap.size+1+1+1,6,none⟩=some (.int .i64 c)/\w1.cell? ⟨w.heap.size+1+1+1,7,none⟩=some (.int .i64 10)) /\
      (w1.cell? ⟨w.heap.size+1+1,0,none⟩=some (.slice none 0 0)/\w1.cell? ⟨w.heap.size+1+1,1,none⟩=some (.string ⟨#[]⟩)/\w1.frozen? ⟨w.heap.size+1+1,0,none⟩=false/\w1.frozen? ⟨w.heap.size+1+1,1,none⟩=false) /\
      (w1.cell? ⟨k0,4,none⟩=some (.slice t zs.length n)/\w1.cell? ⟨k0,5,none⟩=some (.int .i64 L.begun)/\w1.frozen? ⟨k0,4,none⟩=false/\w1.frozen? ⟨k0,5,none⟩=false)/\(w.heap.size+1+1<w1.heap.size/\w.heap.size+1+1+1<w1.heap.size/\k0<w1.heap.size))):=fun w1 hl=>by
    have r3:V.heap[w.heap.size+3]?=some (.cells #[.int .i64 (L.begun+1),.pointer root,.bool k,.string p,.string d,.string i,.int .i64 c,.int .i64 10] 125):=by
      rw [S];simp only [World.drew,World.alloc,gP,Array.size_push]
      repeat rw [if_neg (by omega)]
      simp
    have r2:V.heap[w.heap.size+2]?=some (.cells #[.slice none 0 0,.string ⟨#[]⟩] 88):=by
      rw [S];simp only [World.drew,World.alloc,gP,Array.size_push]
      repeat rw [if_neg (by omega)]
      simp
    have e3:=(hl.block _ (by omega)).trans r3;have e2:=(hl.block _ (by omega)).trans r2;have hfz:∀j,w1.frozen? ⟨k0,j,none⟩=false:=fun j=>(fB (a:=⟨k0,j,none⟩) ((D.trans hl).block k0 hlt)).trans (HL.out.frozen j)
    have:=hl.size;refine ⟨⟨?_,?_,?_,?_,?_,?_,?_,?_⟩,⟨?_,?_,?_,?_⟩,⟨(D.trans hl).cell c4,(D.trans hl).cell c5,hfz 4,hfz 5⟩,by omega,by omega,by omega⟩;all_goals simp [World.cell?,World.frozen?,e3,e2]
  have HX:Hid (am w V/\ai A 41 w root f/\V.heap.size=w.heap.size+4):=⟨D,hN,U⟩;have HZ:Hid (L.opened=zs.map (·.1)/\w.ownsRow B 125 8 (.slice t zs.length n) zs.length (aT zs)/\(∀g,(Value.slice t zs.length n).ownBlock=some g->¬A g)/\∀z∈zs,ai A 41 w z.2 z.1.f):=⟨z1,z2,z3,z4⟩;have HB:Hid (eP L f ⟨k,p,d,i⟩ c=(if tk=⟨#[]⟩ then (L,pg,⟨#[]⟩,0) else if 3<=L.opened.length then (L,[],⟨#[]⟩,8) else (⟨L.opened++[gp L f ⟨k,p,d,i⟩ c],L.begun+1,mF tk (L.begun+1,2) L.told,L.tm⟩,pg,tk,0))):=by
    show eP L f ⟨k,p,d,i⟩ c=_;rw [eP,if_neg hsz,<-htk,<-Q]
  generalize eP L f ⟨k,p,d,i⟩ c=R at *;have HV:Hid (V=((((w.alloc (.cells #[.pointer root] 56)).alloc (.cells #[.bool k,.string p,.string d,.string i] 93)).alloc (.cells #[.slice none 0 0,.string ⟨#[]⟩] 88)).alloc (.cells #[.int .i64 (L.begun+1),.pointer root,.bool k,.string p,.string d,.string i,.int .i64 c,.int .i64 10] 125)).drew):=S;rw [<-htk] at M;replace htk:=M;clear S D U K Q hN z1 z2 z3 z4 hG ab hT hq N hp h hQ;have ad:¬tk.toList=[]:=fun hx=>by
    have:(tk==(⟨#[]⟩:ByteArray))=true:=by rw [beq_toListBytes];simpa using hx
    exact htk ((MapKept.bytes_beq _ _).1 this)
  have hne:(tk.toList == [])=false:=by simpa using ad
  have hR:R=(⟨L.opened++[gp L f ⟨k,p,d,i⟩ c],L.begun+1,mF tk (L.begun+1,2) L.told,L.tm⟩,pg,tk,0):=by rw [HB.out,if_neg htk,if_neg h3]
  subst hR;have h3i:¬(3:Int)<=(zs.length:Int):=by omega
  obtain ⟨i0,bb,a8,ap,al⟩:=info_parts Yq.infoLst;have hbq:=ox;obtain ⟨cL,hcL⟩:∃cL:Array Wq,cL=#[.int .i64 (L.begun+1),.pointer root,.bool k,.string p,.string d,.string i,.int .i64 c,.int .i64 10]:=⟨_,rfl⟩;have Z:Hid (∀w1,am V w1->∀o o':Obj,((w1.alloc o).alloc o').drew.ownsRow B 125 8 (.slice t zs.length n) zs.length (aT zs)/\B<=((w1.alloc o).alloc o').drew.heap.size):=fun w1 hl o o'=>by
    have h5:am w ((w1.alloc o).alloc o').drew:=(((HX.out.1.trans hl).alloc o).alloc o').drew;exact ⟨aZ HZ.out.2.1 fun g _ hg=>h5.block g hg,lT hB h5.size⟩
  have ar:Hid (∀ (w1:Wz) (o:Obj),∀j u,[Value.int .i64 (L.begun+1),.pointer root,.bool k,.string p,.string d,.string i,.int .i64 c,.int .i64 10][j]?=some u->((w1.alloc o).alloc (.cells #[.int .i64 (L.begun+1),.pointer root,.bool k,.string p,.string d,.string i,.int .i64 c,.int .i64 10] 125)).drew.cell? ((⟨w1.heap.size+1,0,none⟩:Ww).add j)=some u):=fun w1 o j u hj=>by
    have:=Hv (w1.alloc o) _ 125 j u hj
    rwa [World.size_alloc] at this
  have bd:Hid (∀w1,am V w1->∀so m sc w3,((w1.alloc (.cells #[.slice so m sc,.string tk] 88)).alloc (.cells #[.int .i64 (L.begun+1),.pointer root,.bool k,.string p,.string d,.string i,.int .i64 c,.int .i64 10] 125)).drew.grownBy w3 (Value.slice t zs.length n).ownBlock ->
      ((w3.cell? ⟨k0,4,none⟩=some (.slice t zs.length n)/\w3.cell? ⟨k0,5,none⟩=some (.int .i64 L.begun)/\w3.frozen? ⟨k0,4,none⟩=false/\w3.frozen? ⟨k0,5,none⟩=false) /\
       (w3.cell? ⟨w1.heap.size,0,none⟩=some (.slice so m sc)/\w3.cell? ⟨w1.heap.size,1,none⟩=some (.string tk)/\w3.cell? ⟨w.heap.size+1+1+1,0,none⟩=some (.int .i64 (L.begun+1))) /\
       (w3.cell? ⟨w.heap.size+1+1,0,none⟩=some (.slice none 0 0)/\w3.cell? ⟨w.heap.size+1+1,1,none⟩=some (.string ⟨#[]⟩)/\w3.frozen? ⟨w.heap.size+1+1,0,none⟩=false/\w3.frozen? ⟨w.heap.size+1+1,1,none⟩=false) /\
       w.heap.size+1+1<w3.heap.size/\w.heap.size+1+1+1<w3.heap.size/\w1.heap.size<w3.heap.size/\k0<w3.heap.size)):=fun w1 hl1 so m sc w3 s=>by
    obtain ⟨⟨q0,q1,q2,q3,q4,q5,q6,q7⟩,⟨s0,s1,z0,z1⟩,⟨m4,m5,n4,n5⟩,y2,y3,yk⟩:=HF.out w1 hl1;have O:am w1 ((w1.alloc (.cells #[.slice so m sc,.string tk] 88)).alloc (.cells #[.int .i64 (L.begun+1),.pointer root,.bool k,.string p,.string d,.string i,.int .i64 c,.int .i64 10] 125)).drew:=((am.refl.alloc _).alloc _).drew;have hsz:((w1.alloc (.cells #[.slice so m sc,.string tk] 88)).alloc (.cells #[.int .i64 (L.begun+1),.pointer root,.bool k,.string p,.string d,.string i,.int .i64 c,.int .i64 10] 125)).drew.heap.size=w1.heap.size+2:=by simp
    have C:∀b,w.heap.size<=b->some b≠(Value.slice t zs.length n).ownBlock:=fun b hb e=>by have:=(HZ.out.2.1.lt b e.symm).2;omega
    have a9:some k0≠(Value.slice t zs.length n).ownBlock:=fun e=>by have:=(HZ.out.2.1.lt k0 e.symm).1;have:=HL.out.low;omega
    have bk:w3.heap[k0]?=w1.heap[k0]?:=(s.block k0 (by omega) a9).trans (O.block k0 yk);have b2:w3.heap[w.heap.size+1+1]?=w1.heap[w.heap.size+1+1]?:=(s.block _ (by omega) (C _ (by omega))).trans (O.block _ y2);have b3:w3.heap[w.heap.size+1+1+1]?=w1.heap[w.heap.size+1+1+1]?:=(s.block _ (by omega) (C _ (by omega))).trans (O.block _ y3);have b1:w3.heap[w1.heap.size]?=some (.cells #[.slice so m sc,.string tk] 88):=by
      rw [s.block _ (by omega) (C _ (by omega))];show ((w1.alloc (.cells #[.slice so m sc,.string tk] 88)).alloc _).heap[w1.heap.size]?=_;rw [bA _ _ _ (by simp)];exact aN _ _
    have:=s.size;have H:∀ {b:Nat},w3.heap[b]?=w1.heap[b]?->∀j,w3.cell? ⟨b,j,none⟩=w1.cell? ⟨b,j,none⟩:=fun h j=>cB (a:=⟨_,j,none⟩) h
    have J:∀ {b:Nat},w3.heap[b]?=w1.heap[b]?->∀j,w3.frozen? ⟨b,j,none⟩=w1.frozen? ⟨b,j,none⟩:=fun h j=>fB (a:=⟨_,j,none⟩) h
    refine ⟨⟨(H bk 4).trans m4,(H bk 5).trans m5,(J bk 4).trans n4,(J bk 5).trans n5⟩,⟨by simp [World.cell?,b1],by simp [World.cell?,b1],(H b3 0).trans q0⟩,⟨(H b2 0).trans s0,(H b2 1).trans s1,(J b2 0).trans z0,(J b2 1).trans z1⟩,by omega,by omega,by omega,by omega⟩
  have X:Hid (∀w1,am V w1->∀so m sc,w1.ownsRow V.heap.size 41 3 (.slice so m sc) pg.length (ax pg)->∀w3 v',w3.ownsRow B 125 8 v' (zs.length+1) (aT zs++[.int .i64 (L.begun+1),.pointer root,.bool k,.string p,.string d,.string i,.int .i64 c,.int .i64 10])->((w1.alloc (.cells #[.slice so m sc,.string tk] 88)).alloc (.cells #[.int .i64 (L.begun+1),.pointer root,.bool k,.string p,.string d,.string i,.int .i64 c,.int .i64 10] 125)).drew.grownBy w3 (Value.slice t zs.length n).ownBlock ->
      (∀g,v'.ownBlock=some g->(Value.slice t zs.length n).ownBlock=some g\/((w1.alloc (.cells #[.slice so m sc,.string tk] 88)).alloc (.cells #[.int .i64 (L.begun+1),.pointer root,.bool k,.string p,.string d,.string i,.int .i64 c,.int .i64 10] 125)).drew.heap.size<=g)->w1.cell? ⟨w.heap.size+1+1,0,none⟩=some (.slice none 0 0) ->
      Calls Yq.prog 70 #[.pointer (some ⟨k0,4,none⟩),.string tk,.agg #[.int .i64 (L.begun+1),.int .i64 2]] ((w3.setCell ⟨k0,4,none⟩ v').setCell ⟨k0,5,none⟩ (.int .i64 (L.begun+1))) fun e w6=>e=.returned (.tuple #[])/\dA k0 ((w3.setCell ⟨k0,4,none⟩ v').setCell ⟨k0,5,none⟩ (.int .i64 (L.begun+1))) w6 /\
        ∀y0 y1,ba A B k0 w ⟨L.opened++[gp L f ⟨k,p,d,i⟩ c],L.begun+1,mF tk (L.begun+1,2) L.told,L.tm⟩ pg (.slice so m sc) ((w6.setCell ⟨w.heap.size+1+1,0,none⟩ y0).setCell ⟨w.heap.size+1+1,1,none⟩ y1)):=
    fun w1 hl1 so m sc I w3 v' F s C Y=>FY HL.out hB HX.out.1 HX.out.2.2 hl1 I c4 HZ.out.1 HZ.out.2.1 HZ.out.2.2.1 HZ.out.2.2.2 (x:=gp L f ⟨k,p,d,i⟩ c) HX.out.2.1 _ _ F s C (L.begun+1) tk (L.begun+1,2) Y
  go_enter (Yq.nq func40),ntmps40;go_wp2_with fail
  go_region
  rw [<-HV.out];obtain ⟨⟨a0,a1,a2,a3,a4,a5,a6,a7⟩,-⟩:=HF.out V am.refl;go_wp2_with (go_at_call 69;refine HP.mono ?_;clear HP;rintro e w1 (⟨so,m,sc,rfl,I,hl1⟩|⟨x,y,r,rfl,hst⟩);rotate_left;exact ⟨rfl,Or.inr ⟨x,y,r,rfl,hst⟩⟩;obtain ⟨⟨q0,q1,q2,q3,q4,q5,q6,q7⟩,⟨s0,s1,z0,z1⟩,⟨m4,m5,n4,n5⟩,y2,y3,yk⟩:=HF.out w1 hl1)
  have yk1:k0<w1.heap.size+1:=by omega
  have y31:w.heap.size+1+1+1<w1.heap.size+1:=by omega
  go_region_law (refine cP rfl (.tmp 47) (.tmp 49) 60 rfl B 125 i0 _ 8 88 (Yq.u underlying60) bb a8 ap al rfl (by decide) (.slice t zs.length n) zs.length (aT zs) (by simp [Act.eval]) (Z.out w1 hl1 _ _).1 ⟨w1.heap.size+1,0,none⟩ 1 1 [.int .i64 (L.begun+1),.pointer root,.bool k,.string p,.string d,.string i,.int .i64 c,.int .i64 10] (by simp [Act.eval]) rfl (ar.out _ _) (one8 ((gp L f ⟨k,p,d,i⟩ c).lst root)) (by simp only [maxLen];omega) (by omega) (Z.out w1 hl1 _ _).2 ?_;intro v' w3 F s C;obtain ⟨va',vc',rfl,-⟩:=az F;obtain ⟨⟨b4,b5,g4,g5⟩,⟨b0,b1,b2⟩,⟨t0,t1,u0,u1⟩,x2,x3,x4,xk⟩:=bd.out w1 hl1 so m sc w3 s;have P:Hid (_/\_/\_):=And.intro F (And.intro s C);clear F s C)
  all_goals
    have HK:=(X.out w1 hl1 so m sc I w3 _ P.out.1 P.out.2.1 P.out.2.2 s0);clear X;go_wp2_with (go_at_call 70;refine HK.mono ?_;clear HK;rintro e w6 ⟨rfl,E,T⟩;have p0:=E.cell (fC b0 (by omega)) (by omega);have p1:=E.cell (fC b1 (by omega)) (by omega);have r0:=E.cell (fC t0 (by omega)) (by omega);have r1:=E.cell (fC t1 (by omega)) (by omega);have e0:w6.frozen? ⟨w.heap.size+1+1,0,none⟩=false:=(by rw [E.frozen (fC t0 (by omega)) (by omega),World.frozen?_setCell,World.frozen?_setCell];exact u0);have e1:w6.frozen? ⟨w.heap.size+1+1,1,none⟩=false:=(by rw [E.frozen (fC t1 (by omega)) (by omega),World.frozen?_setCell,World.frozen?_setCell];exact u1))
    exact bodyPost_ret (v:=.tuple #[.agg #[.slice so m sc,.string tk],.int .i64 0]) (by simp [results,results40,go_sem,r0,r1]) rfl (.inl ⟨_,rfl,T _ _⟩)
end
theorem xD {A:Nat->Prop}{B k0:Nat}{L:Lg}(Qok:Qy->Prop)(hQ:∀q,Qok q->ii q/\ij q)(w:Wz)(h:dr A B w k0 L)(j:B<=w.heap.size)(root:Option Ww)(f:List UInt8->List Ver)(q:Qy)(a:Int)(k:ai A 41 w root f)(hq:Qok q)(b:gt (cu f q.p.data.toList)<=1000)(hp:q.p.size<=maxLen)(hbg:0<=L.begun/\L.begun<2199023255552)(c:L.opened.length<=3)(G:Wz->Prop)(i:∀w',G w'->cU w')(hG:∀w',am w w'->G w')(l:kE G (L.begun+1) 2):
  Calls Yq.prog 40 #[.pointer (some ⟨k0,4,none⟩),sV root,qV q.vs q.p q.d q.af,.int .i64 a] w fun e w'=>
   (∃sv,e=.returned (.tuple #[.agg #[sv,.string (eP L f q a).2.2.1],.int .i64 (eP L f q a).2.2.2])/\ba A B k0 w (eP L f q a).1 (eP L f q a).2.1 sv w')\/Stop Qok e w':=by
 by_cases h1:a<1\/20<a
 .exact oz Qok hQ w h j root f q a k hq b hp hbg c G i hG l (.inl h1)
 .by_cases h2:(gp L f q a).tok 1=⟨#[]⟩
  .exact oz Qok hQ w h j root f q a k hq b hp hbg c G i hG l (.inr (.inl h2))
  .by_cases h3:3<=L.opened.length
   .exact oz Qok hQ w h j root f q a k hq b hp hbg c G i hG l (.inr (.inr h3))
   .exact BF Qok hQ w h j root f q a k hq b hp hbg c G i hG l h1 h2 h3
structure js where
 code:Int
 ver:Int
 body:ByteArray
 items:List ItD
 tok:ByteArray
def ji (a:js)(sv:Wq):Wq:=.agg #[.int .i64 a.code,.int .i64 a.ver,.string a.body,sv,.string a.tok]
def bi (A:Nat->Prop)(B k0:Nat)(w:Wz)(c:St)(L':Lg)(a:js)(e:Ending)(w':Wz):Prop:=
 ∃sv,e=.returned (ji a sv)/\∃A':Nat->Prop,(∀b,A b->A' b)/\(∀b,A' b->A b\/w.heap.size<=b)/\aI A' B w' k0 c L'/\em A B k0 w w'/\bG A' w' sv a.items.length (ax a.items)
section
variable {A A':Nat->Prop} {B k0:Nat} {w w' w'':Wz} {st:St} {L L':Lg}
theorem em.left (hk:k0<w.heap.size)(h:am w w'):em A B k0 w w':=(aJ.left hk h).weak
theorem aI.left (h:aI A B w k0 st L)(hl:am w w'):aI A B w' k0 st L:=h.step (aJ.left h.ls.lt hl) (fun _ h=>h) (h.ls.left hl) rfl
theorem aI.other {b j:Nat}{x:Wq}(h:aI A B w k0 st L)(hb:b≠k0)(hA:¬A b)(hcl:cw w b)(hv:¬jS k0 w b)(a:B<=b):aI A B (w.setCell ⟨b,j,none⟩ x) k0 st L:=
 h.step (aJ.other hb hA a) (fun _ h=>h) (h.ls.other hb hA hcl (fun v _g e1 e2 e3=>hv ⟨v,e1,e3▸e2⟩)) rfl
theorem ma {W0 w1:Wz}{r:Nat}{sv:Wq}{its:List ItD}(s:am w W0)(hk:k0<w.heap.size)(hBw:B<=w.heap.size)(hr:w.heap.size<=r)(hrl:r<W0.heap.size)(o:cw W0 r)(_hA1:∀b,A b->A' b)(m:∀b,A' b->A b\/W0.heap.size<=b)(l:∀b,A b->b<w.heap.size)(hd:aI A' B w1 k0 st L')(q:em A B k0 W0 w1)(hf:FrC k0 W0 w1)(ho:∀g,jS k0 W0 g->g<w.heap.size)(n:bG A' w1 sv its.length (ax its))(x0 x1 x2 x3 p:Wq):
  (∀b,A' b->A b\/w.heap.size<=b)/\aI A' B (put5 w1 r x0 x1 x2 x3 p) k0 st L'/\em A B k0 w (put5 w1 r x0 x1 x2 x3 p)/\bG A' (put5 w1 r x0 x1 x2 x3 p) sv its.length (ax its):=by
 have hlow:=hd.ls.low;have f:r≠k0:=by omega
 have k:¬A' r:=fun h=>by
  rcases m r h with h|h
  .have:=l r h;omega
  .omega
 have hno:¬jS k0 W0 r:=fun h=>by have:=ho r h;omega
 have e1:w1.heap[r]?=W0.heap[r]?:=hf.keep r o f hno;have hc1:cw w1 r:=o.same e1;have d:¬jS k0 w1 r:=fun h=>by
  rcases hf.own r h with h|h
  .exact hno h
  .omega
 have c:∀ (W:Wz) (j:Nat) (x:Wq),¬jS k0 W r->¬jS k0 (W.setCell ⟨r,j,none⟩ x) r:=fun W j x h=>by
  rintro ⟨v,h1,h2⟩;exact h ⟨v,(cB (a:=⟨k0,4,none⟩) (bS _ _ _ _ (fun e=>f e.symm))).symm.trans h1,h2⟩
 have i:∀b,b≠r->(put5 w1 r x0 x1 x2 x3 p).heap[b]?=w1.heap[b]?:=fun b hb=>by
  unfold put5;rw [bS _ _ _ _ hb,bS _ _ _ _ hb,bS _ _ _ _ hb,bS _ _ _ _ hb,bS _ _ _ _ hb]
 refine ⟨fun b hb=>(m b hb).imp id fun h=>by have:=s.size;omega,?_,(em.left hk s).trans (q.trans ?_),bG.keep n fun b hb _=>⟨hb,i b (fun e=>k (e▸hb))⟩⟩
 .unfold put5;exact ((((hd.other f k hc1 d (by omega)).other f k hc1.set (c _ _ _ d) (by omega)).other f k hc1.set.set (c _ _ _ (c _ _ _ d)) (by omega)).other f k hc1.set.set.set (c _ _ _ (c _ _ _ (c _ _ _ d))) (by omega)).other f k hc1.set.set.set.set (c _ _ _ (c _ _ _ (c _ _ _ (c _ _ _ d)))) (by omega)
 .have hkk:=i k0 (fun e=>f e.symm);exact ⟨rfl,by simp [put5],fun b h1 _ _=>i b (by omega),fun b hb _=>i b (fun e=>by have:=l b hb;omega),fun j _=>cB (a:=⟨k0,j,none⟩) hkk,fun j=>fB (a:=⟨k0,j,none⟩) hkk⟩
end
end
