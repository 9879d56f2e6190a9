/- A part. -/
import Derived.Test.YtnapepbdohidgaaGreatDoorQL28
import Derived.Test.YtnapepbdohidgaaGreatDoorQL23
import Derived.Test.YtnapepbdohidgaaGreatDoorQL24
set_option maxHeartbeats 4000000
set_option maxRecDepth 100000
open Go renaming World->Wj,Value->Wx
namespace Go.Proofs.Qw
open Tryz
section
open Go.RowKit
def DR:ByteArray:=⟨#[110,111,110,101]⟩
def j5 (l:List OpD)(o:OpD):Bool:=decide (o.kind=12/\(o.src<0\/(l.length:Int)<=o.src\/(l[o.src.toNat]?.map (·.kind))≠some 11))
def j6 (a:Int):OpD:=if a<9 then ⟨2,DR,⟨#[]⟩,⟨#[]⟩,⟨#[]⟩,0,0⟩ else ⟨9,⟨#[]⟩,⟨#[]⟩,⟨#[]⟩,⟨#[]⟩,0,0⟩
def ll (a:Int)(l:List OpD)(o:OpD):OpD:=if (a<o.kind/\o.kind<=12)\/j5 l o=true then j6 a else o
def et (a:Int)(ops:List OpD):List OpD:=ops.foldl (fun l o=>l++[ll a l o]) []
theorem yL (b:Int)(a:List OpD)(o:OpD):et b (a++[o])=et b a++[ll b (et b a) o]:=by simp [et]
theorem ti (a:Int)(ops:List OpD):(et a ops).length=ops.length:=by
 have:∀ (ops l:List OpD),(ops.foldl (fun l o=>l++[ll a l o]) l).length=l.length+ops.length:=fun ops=>by
  induction ops with
  |nil=>intro l;rfl
  |cons o r ih=>intro l;rw [List.foldl_cons,ih];simp;omega
 rw [et,this];simp
theorem jw (w:Wj)(X:Obj)(o:OpD)(T:TypeId):∀j u,(bK o)[j]?=some u->((w.alloc X).alloc (.cells #[.int .i64 o.kind,.string o.key,.string o.body,.string o.delim,.string o.past,.int .i64 o.n,.int .i64 o.src] T)).cell? ((⟨w.heap.size+1,0,none⟩:Addr).add j)=some u:=by
 intro j u a;have:=ym (w.alloc X) o T j u a
 rwa [show (w.alloc X).heap.size=w.heap.size+1 by simp] at this
theorem DS (d:Int)(a:Option Addr)(n cap:Nat)(ops:List OpD)(w:Wj)(h:gB w (.slice a n cap) ops)(hn:n * 88<=140737488351232):
  Calls Yq.prog 31 #[.slice a n cap,.int .i64 d] w fun e w'=>∃v',e=.returned v'/\w'.ownsRow w.heap.size 31 7 v' n ((et d ops).flatMap bK)/\Below w.heap.size w w':=by
 obtain ⟨i0,H,D,G,E⟩:=info_parts Yq.infoOp;have L:n=ops.length:=by
  obtain ⟨a',K,he,_⟩:=h.form;cases he;rfl
 have HS:Hid (gB w (.slice a n cap) ops/\n=ops.length):=⟨h,L⟩;clear h L;go_enter (Yq.nq func31),ntmps31;go_wp2_with fail
 go_loopw [5,6] (fun s3 s4 wr=>∃i:Nat,i<=n/\s4=.int .i64 i/\wr.ownsRow w.heap.size 31 7 s3 i ((et d (ops.take i)).flatMap bK)/\Below w.heap.size w wr) (fun _ s4 _=>n-(intOf s4).toNat)
 case atStart=>exact ⟨0,Nat.zero_le _,rfl,World.ownsRow_nil _ _ _ _,bR _ _⟩
 case round=>
  obtain ⟨i,hin,rfl,hown,hb⟩:=hrel;obtain ⟨Q,U,rfl,-⟩:=aE hown;by_cases hlt:i<n
  .have A:i<ops.length:=by rw [<-HS.out.2];exact hlt
   have hne:ops≠[]:=by intro e;rw [e] at A;simp at A
   obtain ⟨a',K,he,hx⟩:=HS.out.1.form;obtain ⟨b,off,ha,P⟩:=hx hne;subst ha;cases he;obtain ⟨c0,c1,c2,c3,c4,c5,c6⟩:=P i A;replace c0:=ai hb c0;replace c1:=ai hb c1;replace c2:=ai hb c2;replace c3:=ai hb c3;replace c4:=ai hb c4;replace c5:=ai hb c5;replace c6:=ai hb c6;have J:(et d (ops.take i)).length=i:=by rw [ti,tL];omega
   have B:Hid ((et d (ops.take (i+1))).flatMap bK=(et d (ops.take i)).flatMap bK++bK (ll d (et d (ops.take i)) ops[i])):=show _=_ by
    rw [tS A,yL,List.flatMap_append];simp
   have O:Hid (∀r:Nat,r<i->∃F:Int,∃g,(et d (ops.take i))[r]?.map (·.kind)=some F/\Q=some ⟨g,0,none⟩/\wr.cell? ⟨g,r * 7,none⟩=some (.int .i64 F)):=by
    intro r hr;rcases hown.2 with ⟨he,h0⟩|⟨g,cap1,cur,he,hbg,hg,hnc,hcm,hcs,htake⟩
    .omega
    .cases he;refine ⟨((et d (ops.take i))[r]'(by omega)).kind,g,by rw [eL (by omega)];rfl,rfl,?_⟩;have:=nR (et d (ops.take i)) r 0 (by omega) (by omega);have h2:=hown.cellAt (r * 7+0) (by omega);rw [this] at h2;simpa [bK] using h2
   have R:Hid ((et d (ops.take i)).length=i):=J;clear J;generalize ops[i]=o at *;obtain ⟨c,key,body,f,j,p,l⟩:=o;simp only at c0 c1 c2 c3 c4 c5 c6 B;have HX:Hid (wr.ownsRow w.heap.size 31 7 (.slice Q i U) i ((et d (ops.take i)).flatMap bK)/\Below w.heap.size w wr):=⟨hown,hb⟩;clear hown hb P hx;generalize et d (ops.take i)=q at *
   go_upto_region 6 with fail
   have hno:∀s,s=j5 q ⟨c,key,body,f,j,p,l⟩↔(s=true↔c=12/\(l<0\/(i:Int)<=l\/(q[l.toNat]?.map (·.kind))≠some 11)):=fun s=>by
    unfold j5;rw [R.out];cases s<;>simp
   go_cut [8] (fun s8 Y=>s8=.bool (j5 q ⟨c,key,body,f,j,p,l⟩)/\Y=wr.alloc (.cells #[.int .i64 c,.string key,.string body,.string f,.string j,.int .i64 p,.int .i64 l] 31))
   case first=>
    have x:Hid (∀s,s=j5 q ⟨c,key,body,f,j,p,l⟩↔(s=true↔c=12/\(l<0\/(i:Int)<=l\/(q[l.toNat]?.map (·.kind))≠some 11))):=hno;generalize j5 q ⟨c,key,body,f,j,p,l⟩=ln at *;clear hno;by_cases m:c=12
    .subst m;by_cases h1:l<0
     .go_wp2_with fail
      go_meet
      case rel=>exact ⟨congrArg Value.bool ((x.out _).2 ⟨fun _=>⟨by first|trivial|rfl,.inl h1⟩,fun _=>rfl⟩),rfl⟩
     .by_cases h2:(i:Int)<=l
      .go_wp2_with fail
       go_meet
       case rel=>exact ⟨congrArg Value.bool ((x.out _).2 ⟨fun _=>⟨by first|trivial|rfl,.inr (.inl h2)⟩,fun _=>rfl⟩),rfl⟩
      .obtain ⟨r,hr⟩:∃r:Nat,l=(r:Int):=⟨l.toNat,by omega⟩;subst hr;obtain ⟨F,g,hkk,hg,V⟩:=O.out r (by omega);subst hg;have ck':=ai ((bR wr.heap.size wr).alloc (lR _) (.cells #[.int .i64 12,.string key,.string body,.string f,.string j,.int .i64 p,.int .i64 r] 31)) V;have hri:(r:Int)<(i:Int):=by omega
       have N:Hid (q[r]?.map (·.kind)=some F):=hkk;clear V hkk;by_cases z:F=11
       .subst z;go_wp2_with fail
        go_meet
        case rel=>
         refine ⟨congrArg Value.bool ((x.out _).2 ⟨fun h=>(by cases h),fun h=>?_⟩),rfl⟩;rcases h.2 with h|h|h
         .omega
         .omega
         .exact absurd N.out h
       .have h11':(F==11)=false:=by simp [z]
        have H11:Hid ((F != 11)=true):=by show _=_;simp [z]
        go_wp2_with fail
        go_meet
        case rel=>
         refine ⟨congrArg Value.bool ((x.out _).2 ⟨fun _=>⟨by first|trivial|rfl,.inr (.inr ?_)⟩,fun _=>H11.out⟩),rfl⟩;show q[r]?.map (·.kind)≠_;rw [N.out];simpa using z
    .have hk':(c==12)=false:=by simp [m]
     go_wp2_with fail
     go_meet
     case rel=>exact ⟨congrArg Value.bool ((x.out _).2 ⟨fun h=>(by cases h),fun h=>absurd h.1 m⟩),rfl⟩
   case rest=>
   obtain ⟨rfl,rfl⟩:=hcut;have hb12:j5 q ⟨c,key,body,f,j,p,l⟩=true->c=12:=fun h=>(((hno _).1 rfl).1 h).1
   have M:Hid (ll d q ⟨c,key,body,f,j,p,l⟩=if (d<c/\c<=12)\/j5 q ⟨c,key,body,f,j,p,l⟩=true then j6 d else ⟨c,key,body,f,j,p,l⟩):=rfl;generalize j5 q ⟨c,key,body,f,j,p,l⟩=s at *;clear hno c0 c1 c2 c3 c4 c5 c6 O;by_cases hr:(d<c/\c<=12)\/s=true
   .have C:Hid (ll d q ⟨c,key,body,f,j,p,l⟩=j6 d):=by
     show _=_;rw [M.out,if_pos hr]
    have hr2:(d<c/\c<=12)\/(¬d<c/\c<=12/\s=true):=by
     by_cases hm:d<c
     .rcases hr with hr|hr
      .exact .inl hr
      .exact .inl ⟨hm,by have:=hb12 hr;omega⟩
     .rcases hr with hr|hr
      .exact absurd hr.1 hm
      .exact .inr ⟨hm,by have:=hb12 hr;omega,hr⟩
    clear hr hb12;by_cases X:d<9
    .have v:Hid (ll d q ⟨c,key,body,f,j,p,l⟩=⟨2,DR,⟨#[]⟩,⟨#[]⟩,⟨#[]⟩,0,0⟩):=by
      show _=_;rw [C.out,j6,if_pos X]
     rcases hr2 with ⟨hm,m⟩|⟨hm,m,rfl⟩ <;>
     .go_wp2_with (at_builtin;refine wpList_append_own _ rfl _ _ 22 rfl w.heap.size 31 i0 _ 7 88 (Yq.u underlying22) H D G E rfl (by decide) _ i _ rfl ((HX.out.1.alloc _).alloc _) ⟨wr.heap.size+1,0,none⟩ 1 1 (bK ⟨2,DR,⟨#[]⟩,⟨#[]⟩,⟨#[]⟩,0,0⟩) rfl rfl (jw wr _ ⟨2,DR,⟨#[]⟩,⟨#[]⟩,⟨#[]⟩,0,0⟩ _) (one7 _) (by simp only [maxLen];omega) (by omega) (by have:=HX.out.2.size;simp;omega) ?_;intro v2 w2 t y _)
      have I:Below w.heap.size w w2:=((HX.out.2.alloc HX.out.2.size _).alloc (by have:=HX.out.2.size;simp;omega) _).grown y (by have:=HX.out.2.size;simp;omega) (fun k e=>(HX.out.1.lt k e).1);refine ⟨⟨i+1,by omega,by go_num,?_,I⟩,by simp [intOf];omega⟩;rw [B.out,v.out];simpa using t
    .have v:Hid (ll d q ⟨c,key,body,f,j,p,l⟩=⟨9,⟨#[]⟩,⟨#[]⟩,⟨#[]⟩,⟨#[]⟩,0,0⟩):=by
      show _=_;rw [C.out,j6,if_neg X]
     rcases hr2 with ⟨hm,m⟩|⟨hm,m,rfl⟩ <;>
     .go_wp2_with (at_builtin;refine wpList_append_own _ rfl _ _ 22 rfl w.heap.size 31 i0 _ 7 88 (Yq.u underlying22) H D G E rfl (by decide) _ i _ rfl ((HX.out.1.alloc _).alloc _) ⟨wr.heap.size+1,0,none⟩ 1 1 (bK ⟨9,⟨#[]⟩,⟨#[]⟩,⟨#[]⟩,⟨#[]⟩,0,0⟩) rfl rfl (jw wr _ ⟨9,⟨#[]⟩,⟨#[]⟩,⟨#[]⟩,⟨#[]⟩,0,0⟩ _) (one7 _) (by simp only [maxLen];omega) (by omega) (by have:=HX.out.2.size;simp;omega) ?_;intro v2 w2 t y _)
      have I:Below w.heap.size w w2:=((HX.out.2.alloc HX.out.2.size _).alloc (by have:=HX.out.2.size;simp;omega) _).grown y (by have:=HX.out.2.size;simp;omega) (fun k e=>(HX.out.1.lt k e).1);refine ⟨⟨i+1,by omega,by go_num,?_,I⟩,by simp [intOf];omega⟩;rw [B.out,v.out];simpa using t
   .have v:Hid (ll d q ⟨c,key,body,f,j,p,l⟩=⟨c,key,body,f,j,p,l⟩):=by
     show _=_;rw [M.out,if_neg hr]
    have T:s=false:=by
     cases s
     .rfl
     .exact absurd (.inr rfl) hr
    subst T;have hr2:(d<c/\¬c<=12)\/¬d<c:=by
     by_cases hm:d<c
     .exact .inl ⟨hm,fun h=>hr (.inl ⟨hm,h⟩)⟩
     .exact .inr hm
    clear hr hb12;rcases hr2 with ⟨hm,m⟩|hm <;>
    .go_wp2_with (at_builtin;refine wpList_append_own _ rfl _ _ 22 rfl w.heap.size 31 i0 _ 7 88 (Yq.u underlying22) H D G E rfl (by decide) _ i _ rfl ((HX.out.1.alloc _).alloc _) ⟨wr.heap.size+1,0,none⟩ 1 1 (bK ⟨c,key,body,f,j,p,l⟩) rfl rfl (jw wr _ ⟨c,key,body,f,j,p,l⟩ _) (one7 _) (by simp only [maxLen];omega) (by omega) (by have:=HX.out.2.size;simp;omega) ?_;intro v2 w2 t y _)
     have I:Below w.heap.size w w2:=((HX.out.2.alloc HX.out.2.size _).alloc (by have:=HX.out.2.size;simp;omega) _).grown y (by have:=HX.out.2.size;simp;omega) (fun k e=>(HX.out.1.lt k e).1);refine ⟨⟨i+1,by omega,by go_num,?_,I⟩,by simp [intOf];omega⟩;rw [B.out,v.out];simpa using t
  .have S:i=n:=by omega
   subst S;have HT:Hid (ops.take i=ops):=tO (by rw [<-HS.out.2];exact lR _);have HO:Hid (wr.ownsRow w.heap.size 31 7 (.slice Q i U) i ((et d (ops.take i)).flatMap bK)/\Below w.heap.size w wr):=⟨hown,hb⟩;clear hown hb;go_wp2;go_ret;refine ⟨_,rfl,?_,HO.out.2⟩;have:=HO.out.1;rw [HT.out] at this;exact this
def GS (a:jX)(v:Wx):Wx:=.agg #[.int .i64 a.code,.int .i64 a.ver,.string a.body,v,.string a.tok]
def fG (B k:Nat)(c:St)(L':Lg)(s:Nat)(w:Wj)(e:Ending)(w':Wj):Prop:=
 e=.returned (.bool true)/\∃sl' R' a b P' T' f d,ax B w' k sl' R' a b/\aM B w' k P' T' f d/\Sim c R' a/\my L' P' T' b (s+1)/\PFr B k w w'
theorem fG.mk {B k:Nat}{tm:Int}{d:St}{L':Lg}{s:Nat}{w w':Wj}{sl':Wx}{R':List br}{a:Int}{P':List PlL}{T':List PlT}{c b:Wx}(h1:ax B w' k sl' R' a tm)(h2:aM B w' k P' T' c b)(h3:Sim d R' a)(h4:my L' P' T' tm (s+1))(h5:PFr B k w w'):fG B k d L' s w (.returned (.bool true)) w':=⟨rfl,sl',R',a,tm,P',T',c,b,h1,h2,h3,h4,h5⟩
theorem yM {B k:Nat}{b:St}{L':Lg}{s:Nat}(w:Wj)(o:OpD)(hk:o.kind=6\/o.kind=7)(i:Int)(l:Wx)(a:ByteArray)
  (HL:∀W,Below w.heap.size w W->Calls Yq.prog 53 #[.pointer (some ⟨k,0,none⟩),bh o,.agg #[.int .i64 i,.int .i64 0,.string ⟨#[]⟩,l,.string a]] W fun e w'=>fG B k b L' s w e w'):
  Calls Yq.prog 34 #[.pointer (some ⟨k,0,none⟩),bh o,.agg #[.int .i64 i,.int .i64 0,.string ⟨#[]⟩,l,.string a]] w (fG B k b L' s w):=by
 obtain ⟨f,key,body,c,d,m,j⟩:=o;simp only at hk;unfold bh at HL ⊢;have HL2:=HL ((w.alloc (.cells #[.int .i64 f,.string key,.string body,.string c,.string d,.int .i64 m,.int .i64 j] 31)).alloc (.cells #[.int .i64 i,.int .i64 0,.string ⟨#[]⟩,l,.string a] 36)) (((bR _ w).alloc (lR _) _).alloc (by simp) _);clear HL;rcases hk with rfl|rfl <;>
 .go_enter (Yq.nq func34),ntmps34;go_wp2_with fail
  refine HL2.mono ?_;rintro e w2 ⟨rfl,h⟩;have HE:Hid (fG B k b L' s w (.returned (.bool true)) w2):=⟨rfl,h⟩;clear h HL2;go_wp2_with fail
  go_ret;exact HE.out
theorem BK {B k s:Nat}{sl C vT:Wx}{R:List br}{nx tm:Int}{P:List PlL}{T:List PlT}{st:St}{L:Lg}(w:Wj)(H:ax B w k sl R nx tm)(hP:aM B w k P T C vT)(j:B<=k)(S:Sim st R nx)(SL:my L P T tm s)(z:Inv st s)(hlow:st.last<=s)(A:gb st)(hs:s<2199023255300)(o:OpD)(hk:o.kind<8\/12<o.kind)(hd:o.delim.size<=140737488351232)(a:List ByteArray)(m:Wx)
  (i:∀w',PFr B k w w'->j3 w' m (stepA st L a o).2.2.items):
  Calls Yq.prog 34 #[.pointer (some ⟨k,0,none⟩),bh o,GS (stepA st L a o).2.2 m] w (fG B k (stepA st L a o).1 (stepA st L a o).2.1 s w):=by
 have hkw:=hP.lt;by_cases l:o.kind=6\/o.kind=7
 .obtain ⟨c,q,v,e⟩:∃c,(o.kind==6)=!c/\(o.kind==7)=c/\stepA st L a o=(st,(ez L st.f ⟨c,o.key,o.delim,o.past⟩ o.n).1,Dy (ez L st.f ⟨c,o.key,o.delim,o.past⟩ o.n)):=by
   rcases l with h|h
   .exact ⟨false,by simp [h],by simp [h],by simp [stepA,h]⟩
   .exact ⟨true,by simp [h],by simp [h],by simp [stepA,h]⟩
  rw [e] at i ⊢;obtain ⟨L',pg,b,p,y⟩:∃L' pg b p,ez L st.f ⟨c,o.key,o.delim,o.past⟩ o.n=(L',pg,b,p):=⟨_,_,_,_,rfl⟩;rw [y] at i ⊢;refine yM w o l p m b fun W hb=>?_
  refine (uZ W (H.below hb) (hP.below hb) j S SL z A hs o c q v hd L' pg b p y m (fun w' hf=>i w' ((PFr.below hkw hb).trans hf))).mono ?_;rintro e w' ⟨rfl,P',T',vL',vT',h1,h2,h3,h4⟩;exact fG.mk h1 h2 S h3 ((PFr.below hkw hb).trans h4)
 .have e:stepA st L a o=((ay st o).1,L,⟨(ay st o).2.code,(ay st o).2.ver,(ay st o).2.body,[],⟨#[]⟩⟩):=by
   simp only [stepA,if_neg (show ¬o.kind=6 by omega),if_neg (show ¬o.kind=7 by omega),if_neg (show ¬o.kind=8 by omega),if_neg (show ¬o.kind=9 by omega),if_neg (show ¬o.kind=10 by omega),if_neg (show ¬o.kind=11 by omega)]
  rw [e] at i ⊢;obtain ⟨t,x,d,-⟩:=(i w PFr.refl).form;rw [lN] at d;subst d;have u:Low st s:=⟨z.last0,hlow⟩;have r:B<=w.heap.size:=by omega
  have HST:Calls Yq.prog 34 #[.pointer (some ⟨k,0,none⟩),bh o,qx (ay st o).2 t x] w (te B k (ay st o).1 w sl R tm):=by
   by_cases h:1<=o.kind/\o.kind<=5
   .exact uV B k sl R nx tm _ o _ t x w H h (fun w1 hb=>yB B k sl R nx tm st s o w1 (H.below hb) S u (by omega) (lT r hb.size) h)
   .have e:ay st o=(st,⟨1,0,⟨#[]⟩⟩):=by
     unfold ay;simp only [if_neg (show ¬o.kind=1 by omega),if_neg (show ¬o.kind=2 by omega),if_neg (show ¬o.kind=3 by omega),if_neg (show ¬o.kind=4 by omega),if_neg (show ¬o.kind=5 by omega)]
    rw [e];exact uW B k sl R nx tm st o t x w H S (by omega)
  refine HST.mono ?_;rintro e w' ⟨rfl,sl',R',nx',h1,h2,h3⟩;exact fG.mk h1 (hP.frame H h3) h2 (SL.mono (by omega)) (PFr.ofR j H h3)
theorem Hu {B k i:Nat}{w wc w3:Wj}{X:Obj}{sl vA n vT:Wx}{R:List br}{nx tm:Int}{P:List PlL}{T:List PlT}{g cap:Nat}{xs q:List Wx}(H:ax B wc k sl R nx tm)(hP:aM B wc k P T n vT)(s:B<=wc.heap.size)(l:B<=k)(hb:Below B w wc)(r:wc.cell? ⟨k,7,none⟩=some vA)(hown:wc.ownsRow B 36 5 vA i xs)(hak:vA.ownBlock≠some k)
  (ho3:w3.ownsRow B 36 5 (.slice (some ⟨g,0,none⟩) (i+1) cap) (i+1) q) (hg:(wc.alloc X).grownBy w3 vA.ownBlock) (hgg:vA.ownBlock=some g\/g=wc.heap.size+1):
  ax B (w3.setCell ⟨k,7,none⟩ (.slice (some ⟨g,0,none⟩) (i+1) cap)) k sl R nx tm/\aM B (w3.setCell ⟨k,7,none⟩ (.slice (some ⟨g,0,none⟩) (i+1) cap)) k P T n vT/\(w3.setCell ⟨k,7,none⟩ (.slice (some ⟨g,0,none⟩) (i+1) cap)).cell? ⟨k,7,none⟩=some (.slice (some ⟨g,0,none⟩) (i+1) cap) /\
   (w3.setCell ⟨k,7,none⟩ (.slice (some ⟨g,0,none⟩) (i+1) cap)).ownsRow B 36 5 (.slice (some ⟨g,0,none⟩) (i+1) cap) (i+1) q/\(Value.slice (some ⟨g,0,none⟩) (i+1) cap).ownBlock≠some k/\Below B w (w3.setCell ⟨k,7,none⟩ (.slice (some ⟨g,0,none⟩) (i+1) cap)):=by
 have hk:=H.lt;have hne:g≠k:=by
  rcases hgg with h|h
  .intro e;subst e;exact hak h
  .omega
 have hba:Below wc.heap.size wc (wc.alloc X):=(bR _ _).alloc (lR _) X;have Pa:=hP.below hba;have c:∀b,vA.ownBlock=some b->TyB (wc.alloc X) b 36:=fun b hb=>iB (hown.alloc X) hb
 have H3:=(H.below hba).other hg hak c (by decide) (by decide);have c3:w3.cell? ⟨k,7,none⟩=some vA:=hg.cell (ai hba r) (fun e=>hak e.symm);have o:(Value.slice (some ⟨g,0,none⟩) (i+1) cap).ownBlock≠some k:=by simpa [Value.ownBlock] using hne
 have f:∀j,w3.cell? ⟨k,j,none⟩=(wc.alloc X).cell? ⟨k,j,none⟩:=fun j=>cB (a:=⟨k,j,none⟩) (hg.block k Pa.lt (fun e=>hak e.symm))
 have P3:aM B w3 k P T n vT:=Pa.keep (f 3) (f 4) (fun j=>fB (a:=⟨k,j,none⟩) (hg.block k Pa.lt (fun e=>hak e.symm))) fun b U _ ht t=>hg.block b ht.lt fun e=>by
  have:=(c b e.symm).ne ht;subst this
  revert t
  decide
 have d:∀j,j≠7->(w3.setCell ⟨k,7,none⟩ (.slice (some ⟨g,0,none⟩) (i+1) cap)).cell? ⟨k,j,none⟩=w3.cell? ⟨k,j,none⟩:=fun j hj=>cO w3 ⟨k,7,none⟩ ⟨k,j,none⟩ _ (fun e=>by have:=congrArg Addr.off e;simp only at this;omega)
 refine ⟨H3.far 7 _ (by omega),P3.keep (d 3 (by omega)) (d 4 (by omega)) (fun j=>by simp) (fun b U m _ _=>bS _ _ _ _ m),cs c3,iC ho3 o 7 _,o,?_⟩;exact ((hb.alloc s X).grown hg (by simp;omega) (fun b e=>(hown.lt b e).1)).setCell (p:=⟨k,7,none⟩) l _
theorem DT (b off cap ga:Nat)(ops:List OpD)(zs:List (jX×Wx))(D:Nat->St×Lg)(w:Wj)(hS:gz w b off ops)(Q:ops.length * 88<=140737488351232)(V:zs.length=ops.length)(hA:∀j,j<ops.length * 5->w.cell? ⟨ga,j,none⟩=(aZ zs)[j]?)(hv:∀z∈zs,∃a n c,z.2=.slice a n c)(h0:D 0=(st0,⟨[],0,[],0⟩))
  (HST:∀ (i:Nat) (hi:i<ops.length) (be:i<zs.length) (W:Wj) {sl O vT:Wx} {R:List br} {nx tm:Int} {P:List PlL} {T:List PlT},Below w.heap.size w W->ax w.heap.size W w.heap.size sl R nx tm->aM w.heap.size W w.heap.size P T O vT->Sim (D i).1 R nx->my (D i).2 P T tm i ->
   Calls Yq.prog 34 #[.pointer (some ⟨w.heap.size,0,none⟩),bh ops[i],GS zs[i].1 zs[i].2] W (fG w.heap.size w.heap.size (D (i+1)).1 (D (i+1)).2 i W)):
  Calls Yq.prog 32 #[.slice (some ⟨b,off,none⟩) ops.length cap,.slice (some ⟨ga,0,none⟩) ops.length ops.length] w fun e w'=>e=.returned (.bool true)/\Below w.heap.size w w':=by
 obtain ⟨i0,bk,ar,bi,a7⟩:=info_parts Yq.infoAns;obtain ⟨n,A⟩:∃n,ops.length=n:=⟨_,rfl⟩;have HN:Hid (ops.length=n/\gz w b off ops/\zs.length=n/\(∀j,j<n * 5->w.cell? ⟨ga,j,none⟩=(aZ zs)[j]?)/\∀z∈zs,∃a n c,z.2=.slice a n c):=⟨A,hS,by rw [<-A];exact V,by rw [<-A];exact hA,hv⟩;have a9:Hid (∀ (i:Nat) (hi:i<ops.length) (be:i<zs.length) (W:Wj) {sl O vT:Wx} {R:List br} {nx tm:Int} {P:List PlL} {T:List PlT},Below w.heap.size w W->ax w.heap.size W w.heap.size sl R nx tm->aM w.heap.size W w.heap.size P T O vT->Sim (D i).1 R nx->my (D i).2 P T tm i ->
   Calls Yq.prog 34 #[.pointer (some ⟨w.heap.size,0,none⟩),bh ops[i],GS zs[i].1 zs[i].2] W (fG w.heap.size w.heap.size (D (i+1)).1 (D (i+1)).2 i W)):=HST
 rw [A] at Q ⊢;clear A hS V hA hv HST;go_enter (Yq.nq func32),ntmps32;go_wp2_with fail
 go_loopw [6] (fun s6 wr=>∃ (i:Nat) (sl:Wx) (R:List br) (nx tm:Int) (P:List PlL) (T:List PlT) (O vT vA:Wx),i<=n/\s6=.int .i64 i/\ax w.heap.size wr w.heap.size sl R nx tm/\aM w.heap.size wr w.heap.size P T O vT/\Sim (D i).1 R nx/\my (D i).2 P T tm i/\wr.cell? ⟨w.heap.size,7,none⟩=some vA /\
  wr.ownsRow w.heap.size 36 5 vA i (aZ (zs.take i))/\vA.ownBlock≠some w.heap.size/\Below w.heap.size w wr) (fun s6 _=>n-(intOf s6).toNat)
 case atStart=>
  refine ⟨0,.slice none 0 0,[],1,0,[],[],.slice none 0 0,.slice none 0 0,.slice none 0 0,Nat.zero_le _,rfl,?_,?_,?_,?_,?_,World.ownsRow_nil _ _ _ _,by simp [Value.ownBlock],(bR _ _).alloc (lR _) _⟩
  .refine ⟨⟨?_,?_,?_,fun j=>World.frozen?_alloc_at (w:=w) _ _ w.heap.size j rfl⟩,World.ownsRow_nil _ _ _ _,fun e he=>absurd he List.not_mem_nil,by simp [Value.ownBlock],fun e he=>absurd he List.not_mem_nil,fun e he=>absurd he List.not_mem_nil,List.Pairwise.nil⟩
   .rw [cA (w:=w) _ _ w.heap.size 0 rfl];rfl
   .rw [cA (w:=w) _ _ w.heap.size 1 rfl];rfl
   .rw [cA (w:=w) _ _ w.heap.size 2 rfl];rfl
  .refine ⟨?_,?_,fun j=>World.frozen?_alloc_at (w:=w) _ _ w.heap.size j rfl,World.ownsRow_nil _ _ _ _,World.ownsRow_nil _ _ _ _,fun l hl=>absurd hl List.not_mem_nil,by simp [Value.ownBlock],by simp [Value.ownBlock],fun l hl=>absurd hl List.not_mem_nil⟩
   .rw [cA (w:=w) _ _ w.heap.size 3 rfl];rfl
   .rw [cA (w:=w) _ _ w.heap.size 4 rfl];rfl
  .rw [h0];exact ⟨rfl,fun e he=>absurd he List.not_mem_nil,List.Pairwise.nil,fun e he=>absurd he List.not_mem_nil,fun _ _=>rfl,rfl,by simp [totR]⟩
  .rw [h0];exact G8
  .rw [cA (w:=w) _ _ w.heap.size 7 rfl];rfl
 case round=>
  obtain ⟨i,sl,R,nx,tm,P,T,O,vT,vA,hin,rfl,H,hP,S,SL,c7,hown,hak,hb⟩:=hrel;obtain ⟨x,y,rfl,-⟩:=aE hown;by_cases hlt:i<n
  .have al:i<ops.length:=by rw [HN.out.1];exact hlt
   have G:i<zs.length:=by rw [HN.out.2.2.1];exact hlt
   obtain ⟨c0,c1,c2,c3,c4,c5,c6⟩:=HN.out.2.1 i al;replace c0:=ai hb c0;replace c1:=ai hb c1;replace c2:=ai hb c2;replace c3:=ai hb c3;replace c4:=ai hb c4;replace c5:=ai hb c5;replace c6:=ai hb c6;obtain ⟨z0,z1,z2,z3,z4⟩:=j1 zs i G;have a0:=(HN.out.2.2.2.1 _ (by omega)).trans z0;have a1:=(HN.out.2.2.2.1 _ (by omega)).trans z1;have a2:=(HN.out.2.2.2.1 _ (by omega)).trans z2;have a3:=(HN.out.2.2.2.1 _ (by omega)).trans z3;have a4:=(HN.out.2.2.2.1 _ (by omega)).trans z4;obtain ⟨E,L,J,Z⟩:=HN.out.2.2.2.2 _ (List.getElem_mem G);have a6:w.heap.size<=wr.heap.size:=hb.size;have HST:=a9.out i al G wr.drew (hb.drew) (H.below (bR _ _).drew) (hP.below (bR _ _).drew) S SL;have e1:aZ (zs.take (i+1))=aZ (zs.take i)++[.int .i64 zs[i].1.code,.int .i64 zs[i].1.ver,.string zs[i].1.body,zs[i].2,.string zs[i].1.tok]:=by rw [tS G,nT]
   rw [Z] at a3 e1 HST;generalize zs[i].1=a5 at *;generalize ops[i]=o at *;obtain ⟨kind,key,body,delim,past,nn,src⟩:=o;obtain ⟨C,I,B,ait,k⟩:=a5;simp only at c0 c1 c2 c3 c4 c5 c6 a0 a1 a2 a4 e1;have HE:Hid (aZ (zs.take (i+1))=aZ (zs.take i)++[.int .i64 C,.int .i64 I,.string B,.slice E L J,.string k]):=e1;have a8:Hid (w.cell? ⟨ga,i * 5,none⟩=some (.int .i64 C)/\w.cell? ⟨ga,i * 5+1,none⟩=some (.int .i64 I)/\w.cell? ⟨ga,i * 5+2,none⟩=some (.string B)/\w.cell? ⟨ga,i * 5+3,none⟩=some (.slice E L J)/\w.cell? ⟨ga,i * 5+4,none⟩=some (.string k)):=⟨a0,a1,a2,a3,a4⟩;replace a0:=ai hb a0;replace a1:=ai hb a1;replace a2:=ai hb a2;replace a3:=ai hb a3;replace a4:=ai hb a4;have HX:Hid (wr.cell? ⟨w.heap.size,7,none⟩=some (.slice x i y)/\wr.ownsRow w.heap.size 36 5 (.slice x i y) i (aZ (zs.take i))/\(Value.slice x i y).ownBlock≠some w.heap.size/\Below w.heap.size w wr):=⟨c7,hown,hak,hb⟩;have hii:(i:Int)<(n:Int):=by omega
   clear H hP S SL c7 hown hak hb e1 z0 z1 z2 z3 z4 Z;unfold GS bh at HST;simp only at HST;generalize hst:(D (i+1)).1=K at *;generalize ap:(D (i+1)).2=L' at *;have af:Hid ((D (i+1)).1=K/\(D (i+1)).2=L'):=⟨hst,ap⟩;clear hst ap
   go_upto_region 7 with fail
   go_cut [7] (fun s7 wx=>s7=.bool true/\∃sl' R' h f P' T' r q,ax w.heap.size wx w.heap.size sl' R' h f/\aM w.heap.size wx w.heap.size P' T' r q/\Sim K R' h/\my L' P' T' f (i+1)/\PFr w.heap.size w.heap.size wr wx)
   case first=>
    go_region_with (go_at_call 34;refine HST.mono ?_;rintro e w2 ⟨rfl,sl',R',h,f,P',T',r,q,H',P1',S',SL',F⟩;have HZ:Hid (∃sl' R' h f P' T' r q,ax w.heap.size w2 w.heap.size sl' R' h f/\aM w.heap.size w2 w.heap.size P' T' r q/\Sim K R' h/\my L' P' T' f (i+1)/\PFr w.heap.size w.heap.size wr w2):=⟨sl',R',h,f,P',T',r,q,H',P1',S',SL',⟨F.os,F.tape,F.output,F.size,F.low,F.ans,F.cells,F.frozen⟩⟩;clear H' P1' S' SL' F)
    all_goals
     go_wp2_with fail
     go_meet
     case rel=>exact ⟨rfl,HZ.out⟩
   case rest=>
   obtain ⟨rfl,sl',R',h,f,P',T',r,q,H',P1,S',SL',F⟩:=hcut;have hak:=HX.out.2.2.1;have v:wc.ownsRow w.heap.size 36 5 (.slice x i y) i (aZ (zs.take i)):=dH HX.out.2.1 fun g hg=>F.ans g (fun e=>hak (e▸hg)) (iB HX.out.2.1 hg)
   have M:wc.cell? ⟨w.heap.size,7,none⟩=some (.slice x i y):=(F.cells 7 (by omega)).trans HX.out.1;have bl:wc.frozen? ⟨w.heap.size,7,none⟩=false:=P1.fz 7;have m:Below w.heap.size w wc:=F.to HX.out.2.2.2 a6;have bd:w.heap.size<=wc.heap.size:=m.size;obtain ⟨d0,d1,d2,d3,d4⟩:=a8.out;replace d0:=ai m d0;replace d1:=ai m d1;replace d2:=ai m d2;replace d3:=ai m d3;replace d4:=ai m d4;have ad:Hid (∀X:Obj,(wc.alloc X).ownsRow w.heap.size 36 5 (.slice x i y) i (aZ (zs.take i))):=fun X=>v.alloc X
   have N:Hid (∀w3:Wj,(wc.alloc (.cells #[.int .i64 C,.int .i64 I,.string B,.slice E L J,.string k] 36)).grownBy w3 (Value.slice x i y).ownBlock->w3.cell? ⟨w.heap.size,7,none⟩=some (.slice x i y)/\w3.frozen? ⟨w.heap.size,7,none⟩=false):=fun w3 t=>by
    have hba:Below wc.heap.size wc (wc.alloc (.cells #[.int .i64 C,.int .i64 I,.string B,.slice E L J,.string k] 36)):=(bR _ _).alloc (lR _) _;refine ⟨t.cell (ai hba M) (fun e=>hak e.symm),?_⟩;rw [bB t ⟨w.heap.size,7,none⟩ (by have:=H'.lt;simp;omega) (fun e=>hak e.symm)];exact (hba.frozen (p:=⟨w.heap.size,7,none⟩) H'.lt).trans bl
   have U:Hid (∀ (g d:Nat) (w3:Wj),w3.ownsRow w.heap.size 36 5 (.slice (some ⟨g,0,none⟩) (i+1) d) (i+1) (aZ (zs.take i)++[.int .i64 C,.int .i64 I,.string B,.slice E L J,.string k])->(wc.alloc (.cells #[.int .i64 C,.int .i64 I,.string B,.slice E L J,.string k] 36)).grownBy w3 (Value.slice x i y).ownBlock->((Value.slice x i y).ownBlock=some g\/g=wc.heap.size+1) ->
     ∃v',ax w.heap.size (w3.setCell ⟨w.heap.size,7,none⟩ (.slice (some ⟨g,0,none⟩) (i+1) d)) w.heap.size sl' R' h f/\aM w.heap.size (w3.setCell ⟨w.heap.size,7,none⟩ (.slice (some ⟨g,0,none⟩) (i+1) d)) w.heap.size P' T' r q/\(w3.setCell ⟨w.heap.size,7,none⟩ (.slice (some ⟨g,0,none⟩) (i+1) d)).cell? ⟨w.heap.size,7,none⟩=some v' /\
      (w3.setCell ⟨w.heap.size,7,none⟩ (.slice (some ⟨g,0,none⟩) (i+1) d)).ownsRow w.heap.size 36 5 v' (i+1) (aZ (zs.take (i+1)))/\v'.ownBlock≠some w.heap.size/\Below w.heap.size w (w3.setCell ⟨w.heap.size,7,none⟩ (.slice (some ⟨g,0,none⟩) (i+1) d))):=fun g d w3 ho3 t hgg=>by
    obtain ⟨q1,q2,q3,q4,q5,q6⟩:=Hu H' P1 bd (lR _) m M v hak ho3 t hgg;refine ⟨_,q1,q2,q3,?_,q5,q6⟩;rw [HE.out];exact q4
   have Y:Hid (Sim K R' h/\my L' P' T' f (i+1)):=⟨S',SL'⟩;have c7a:(wc.alloc (.cells #[.int .i64 C,.int .i64 I,.string B,.slice E L J,.string k] 36)).cell? ⟨w.heap.size,7,none⟩=some (.slice x i y):=ai ((bR _ _).alloc (lR _) _) M;clear H' P1 S' SL' F v m HST c0 c1 c2 c3 c4 c5 c6 a0 a1 a2 a3 a4 hak
   go_upto_region 10 with fail
   go_region_law (refine step_append_lies _ rfl _ _ 27 rfl w.heap.size 36 i0 _ 5 72 (Yq.u underlying27) bk ar bi a7 rfl (by decide) (.slice x i y) i (aZ (zs.take i)) (by simp [Act.eval]) (ad.out _) ⟨wc.heap.size,0,none⟩ 1 1 [.int .i64 C,.int .i64 I,.string B,.slice E L J,.string k] (by simp [Act.eval]) rfl (oU wc _ _ _ _ _ _) (by simp [Value.oneCell']) (by omega) (by simp only [maxLen];omega) (by omega) (by simp;omega) (wc.heap.size+1) (by simp) ?_;intro g d w3 ho3 s hgg hlt3;have t:(wc.alloc (.cells #[.int .i64 C,.int .i64 I,.string B,.slice E L J,.string k] 36)).grownBy w3 (Value.slice x i y).ownBlock:=⟨s.os,s.tape,s.output,s.size,s.block⟩;obtain ⟨y0,y1⟩:=N.out w3 t)
   all_goals
    go_wp2_with fail
    obtain ⟨v',Q1,Q2,Q3,Q4,Q5,Q6⟩:=U.out g d w3 ho3 t hgg;refine ⟨⟨i+1,sl',R',h,f,P',T',r,q,v',by omega,by go_num,Q1,Q2,?_,?_,Q3,Q4,Q5,Q6⟩,by simp [intOf];omega⟩
    .rw [af.out.1];exact Y.out.1
    .rw [af.out.2];exact Y.out.2
  .have bb:i=n:=by omega
   subst bb;clear H hP S SL c7 hown hak;go_wp2;go_ret;exact ⟨rfl,hb⟩
end
