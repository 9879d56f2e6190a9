/- A part. -/
import Derived.Test.YtnapepbdohidgaaGreatDoorQL20
set_option maxHeartbeats 4000000
set_option maxRecDepth 100000
open Go renaming World->Wj,Value->Wx
namespace Go.Proofs.Qw
open Tryz
section
open Go.RowKit
theorem ax.ver {B:Nat}{w:Wj}{k:Nat}{sl:Wx}{R:List br}{nx tm:Int}(h:ax B w k sl R nx tm)(i:Nat)(a:i<R.length)(r:Nat)(hr:r<R[i].h.length):
  ∃g cap,R[i].v=.slice (some ⟨g,0,none⟩) R[i].h.length cap/\g<w.heap.size/\w.cell? ⟨g,r * 3,none⟩=some (.int .i64 R[i].h[r].num)/\w.cell? ⟨g,r * 3+1,none⟩=some (.string R[i].h[r].body)/\w.cell? ⟨g,r * 3+2,none⟩=some (.bool R[i].h[r].mark):=by
 have ho:=h.vers _ (List.getElem_mem a);obtain ⟨g,cap,hv,h1,h2,h3⟩:=cP ho (by omega);rw [hv] at ho;refine ⟨g,cap,hv,h2,?_,?_,?_⟩
 .have:=ho.cellAt (r * 3+0) (by omega);rw [am,cu 3 _ (fun _=>rfl) R[i].h r 0 hr (by omega)] at this;simpa using this
 .have:=ho.cellAt (r * 3+1) (by omega);rw [am,cu 3 _ (fun _=>rfl) R[i].h r 1 hr (by omega)] at this;simpa using this
 .have:=ho.cellAt (r * 3+2) (by omega);rw [am,cu 3 _ (fun _=>rfl) R[i].h r 2 hr (by omega)] at this;simpa using this
theorem Sim.missing {st:St}{R:List br}{nx:Int}(S:Sim st R nx){key:ByteArray}(hno:∀x∈R,x.key≠key):st.f key.data.toList=[]:=
 S.gone _ (fun e he h=>hno e he (iz h))
theorem Bv {st:St}{o:OpD}(a:o.kind=2\/o.kind=3\/o.kind=5)(hk:aI o.key=true)(hf:st.f o.key.data.toList=[]):ay st o=(st,⟨5,0,⟨#[]⟩⟩):=by
 rcases a with h|h|h<;>simp [ay,h,hk,hf,ci]
theorem Bw (B k:Nat)(sl:Wx)(R:List br)(nx tm:Int)(st:St)(o:OpD)(w:Wj)(H:ax B w k sl R nx tm)(S:Sim st R nx)(a:o.kind=2\/o.kind=3\/o.kind=5)(hk:aI o.key=true)(hno:∀x∈R,x.key≠o.key):
  Calls Yq.prog 82 #[.pointer (some ⟨k,0,none⟩),bh o] w (bL B k (ay st o).1 (ay st o).2 w sl R tm):=by
 have hlen:=gE R S.full;have hlim:=S.lim;have hkw:=H.lt;rw [Bv a hk (S.missing hno)];have HH:Hid (ax B w k sl R nx tm/\Sim st R nx):=⟨H,S⟩;have d:Hid (∀x∈R,x.key≠o.key):=hno;clear H S hno hk a;obtain ⟨h,key,body,b,f,q,m⟩:=o;simp only at d;unfold bL bh;go_enter (Yq.nq func82),ntmps82;go_wp2_with fail
 refine (iy B k sl R nx tm key _ ((HH.out.1.alloc _).alloc _) (by omega)).mono ?_;rintro e w1 ⟨rfl,⟨i,p,l,-⟩|⟨-,rfl⟩⟩
 .exact absurd l (d.out _ (List.getElem_mem p))
 go_wp2_with fail
 refine (eA 5 _).mono ?_;rintro e w2 ⟨rfl,j⟩;have n:Below w.heap.size w w2:=(((bR _ w).alloc (lR _) _).alloc (by simp) _).trans (j.mono (by simp;omega));have HB:Hid (Below w.heap.size w w2):=n;have RA:=(DD (w.alloc (.cells #[.int .i64 h,.string key,.string body,.string b,.string f,.int .i64 q,.int .i64 m] 31)) (w.heap.size+1) (by simp) 36).on j;obtain ⟨d0,d1,d2,d3,d4,c⟩:=RA;have g0:=c 0;have g1:=c 1;have g2:=c 2;have g3:=c 3;have g4:=c 4;clear n j c;unfold aA;go_wp2;refine bodyPost_ret (v:=aA ⟨5,0,⟨#[]⟩⟩) (by simp [results,results82,go_sem,aA,d0,d1,d2,d3,d4]) rfl ⟨rfl,?_⟩;have hb:=cT HB.out (x:=w.heap.size+1) (by omega) (.int .i64 5) (.int .i64 0) (.string ⟨#[]⟩) (.slice none 0 0) (.string ⟨#[]⟩);exact ⟨sl,R,nx,HH.out.1.below hb,HH.out.2,ba hkw hb _ _⟩
theorem uT {st:St}{o:OpD}(h:List Ver)(v:Ver)(a:o.kind=2)(hk:aI o.key=true)(hf:st.f o.key.data.toList=h)(hl:h.getLast?=some v):ay st o=(st,if v.mark then ⟨5,0,⟨#[]⟩⟩ else ⟨0,v.num,v.body⟩):=by
 cases hm:v.mark<;>simp [ay,a,hk,hf,hl,hm]
theorem DF (B k:Nat)(sl:Wx)(R:List br)(nx tm:Int)(st:St)(o:OpD)(w:Wj)(H:ax B w k sl R nx tm)(S:Sim st R nx)(c:o.kind=2)(hk:aI o.key=true)(i:Nat)(p:i<R.length)(d:R[i].key=o.key):
  Calls Yq.prog 82 #[.pointer (some ⟨k,0,none⟩),bh o] w (bL B k (ay st o).1 (ay st o).2 w sl R tm):=by
 have hlen:=gE R S.full;have hlim:=S.lim;have hkw:=H.lt;have hmem:R[i]∈R:=List.getElem_mem p;have hne:=S.full _ hmem;have hpos:=List.length_pos_iff.2 hne;have hml:=sX R i p;have a:R[i].h.getLast?=some (R[i].h[R[i].h.length-1]):=by rw [List.getLast?_eq_getElem?,eL (by omega)]
 rw [uT R[i].h _ c hk (by rw [<-d];exact S.here _ hmem) a];obtain ⟨A,vcap,hv,hgl,z0,z1,z2⟩:=H.ver i p (R[i].h.length-1) (by omega);obtain ⟨ge,q,rfl,-,hgel,x0,x1⟩:=H.ent i p;rw [hv] at x1;have c0:=H.cells.c0;have HH:Hid (ax B w k (.slice (some ⟨ge,0,none⟩) R.length q) R nx tm/\Sim st R nx):=⟨H,S⟩;have HIK:Hid (R[i].key=o.key):=d;have s:Hid (∀j (t:j<R.length),R[j].key=o.key->j=i):=fun j t f=>by
  by_cases h:j=i
  .exact h
  .exact absurd (f.trans d.symm) (S.other p t h)
 generalize R[i].h[R[i].h.length-1]=v at *;obtain ⟨y,z,E⟩:=v;simp only at z0 z1 z2;obtain ⟨m,hm⟩:∃m,R[i].h.length=m+1:=⟨R[i].h.length-1,by omega⟩;rw [hm,Nat.add_sub_cancel] at z0 z1 z2;rw [hm] at x1 hml;have hkk:=c;clear H S d hk hv a hmem hne hpos x0 hm;obtain ⟨kind,key,body,b,l,D,r⟩:=o;simp only at hkk HIK s;subst hkk;have hii:(i:Int)<(R.length:Int):=by omega
 unfold bL bh;go_enter (Yq.nq func82),ntmps82;go_wp2_with fail
 refine (iy B k _ R nx tm key _ ((HH.out.1.alloc _).alloc _) (by omega)).mono ?_;rintro e w1 ⟨rfl,⟨j,t,f,rfl⟩|⟨hno,-⟩⟩
 rotate_left
 .exact absurd HIK.out (hno _ (List.getElem_mem p))
 have hji:=s.out j t f;subst hji;clear f;have hne1:¬ge=w.heap.size:=by omega
 have hne2:¬ge=w.heap.size+1:=by omega
 have hne3:¬A=w.heap.size:=by omega
 have hne4:¬A=w.heap.size+1:=by omega
 have hne5:¬k=w.heap.size:=by omega
 have hne6:¬k=w.heap.size+1:=by omega
 cases E with
 |true=>
  go_wp2_with fail
  refine (eA 5 _).mono ?_;rintro e w2 ⟨rfl,u⟩;have C:Below w.heap.size w w2:=((((bR _ w).alloc (lR _) _).alloc (by simp) _).alloc (by simp;omega) _).trans (u.mono (by simp;omega));have HB:Hid (Below w.heap.size w w2):=C;have RA:=((DD (w.alloc (.cells #[.int .i64 2,.string key,.string body,.string b,.string l,.int .i64 D,.int .i64 r] 31)) (w.heap.size+1) (by simp) 36).on ((bR _ _).alloc (lR _) _)).on u;obtain ⟨d0,d1,d2,d3,d4,n⟩:=RA;have g0:=n 0;have g1:=n 1;have g2:=n 2;have g3:=n 3;have g4:=n 4;clear C u n;unfold aA;go_wp2;refine bodyPost_ret (v:=aA ⟨5,0,⟨#[]⟩⟩) (by simp [results,results82,go_sem,aA,d0,d1,d2,d3,d4]) rfl ⟨rfl,?_⟩;have hb:=cT HB.out (x:=w.heap.size+1) (by omega) (.int .i64 5) (.int .i64 0) (.string ⟨#[]⟩) (.slice none 0 0) (.string ⟨#[]⟩);exact ⟨_,R,nx,HH.out.1.below hb,HH.out.2,ba hkw hb _ _⟩
 |false=>
  go_wp2;refine bodyPost_ret (v:=aA ⟨0,y,z⟩) (by simp [results,results82,go_sem,aA]) rfl ⟨rfl,?_⟩;have hb:Below w.heap.size w (((w.alloc (.cells #[.int .i64 2,.string key,.string body,.string b,.string l,.int .i64 D,.int .i64 r] 31)).alloc (.cells #[.int .i64 0,.int .i64 y,.string z,.slice none 0 0,.string ⟨#[]⟩] 36)).alloc (.cells #[.int .i64 y,.string z,.bool false] 145)):=(((bR _ w).alloc (lR _) _).alloc (by simp) _).alloc (by simp;omega) _;exact ⟨_,R,nx,HH.out.1.below hb,HH.out.2,ba hkw hb _ _⟩
theorem od {st:St}{o:OpD}(a:o.kind=3)(hk:aI o.key=true)(hp:ci (st.f o.key.data.toList) o.n=none):ay st o=(st,⟨5,0,⟨#[]⟩⟩):=by
 simp [ay,a,hk,hp]
theorem sY {st:St}{o:OpD}{r:Nat}(v:Ver)(a:o.kind=3)(hk:aI o.key=true)(hp:ci (st.f o.key.data.toList) o.n=some r)(hv:(st.f o.key.data.toList)[r]?=some v):ay st o=(st,if v.mark then ⟨6,0,⟨#[]⟩⟩ else ⟨0,0,v.body⟩):=by
 cases hm:v.mark<;>simp [ay,a,hk,hp,hv,hm]
theorem lU {h:List Ver}{n:Int}(hno:∀j (a:j<h.length),h[j].num≠n):ci h n=none:=by
 unfold ci;rw [List.findIdx?_eq_none_iff];intro x hx;obtain ⟨j,a,rfl⟩:=gM hx;simpa using hno j a
theorem lW {h:List Ver}{n:Int}{r:Nat}(hr:r<h.length)(hn:h[r].num=n)(hno:∀j (a:j<h.length),j<r->h[j].num≠n):ci h n=some r:=by
 unfold ci;rw [List.findIdx?_eq_some_iff_getElem];exact ⟨hr,by simpa using hn,fun j a=>by simpa using hno j (by omega) a⟩
theorem Bx (B k:Nat)(sl:Wx)(R:List br)(nx tm:Int)(st:St)(o:OpD)(w:Wj)(H:ax B w k sl R nx tm)(S:Sim st R nx)(q:o.kind=3)(hk:aI o.key=true)(i:Nat)(L:i<R.length)(A:R[i].key=o.key):
  Calls Yq.prog 82 #[.pointer (some ⟨k,0,none⟩),bh o] w (bL B k (ay st o).1 (ay st o).2 w sl R tm):=by
 have hlen:=gE R S.full;have hlim:=S.lim;have hkw:=H.lt;have hmem:R[i]∈R:=List.getElem_mem L;have hpos:=List.length_pos_iff.2 (S.full _ hmem);have hml:=sX R i L;have z:st.f o.key.data.toList=R[i].h:=by rw [<-A];exact S.here _ hmem
 obtain ⟨V,N,hv,hgl,-⟩:=H.ver i L 0 hpos;obtain ⟨ge,M,rfl,-,hgel,x0,x1⟩:=H.ent i L;rw [hv] at x1;have c0:=H.cells.c0;have HH:Hid (ax B w k (.slice (some ⟨ge,0,none⟩) R.length M) R nx tm/\Sim st R nx/\R[i].v=.slice (some ⟨V,0,none⟩) R[i].h.length N):=⟨H,S,hv⟩;have HIK:Hid (R[i].key=o.key):=A;have Q:Hid (∀j (F:j<R.length),R[j].key=o.key->j=i):=fun j F C=>by
  by_cases h:j=i
  .exact h
  .exact absurd (C.trans A.symm) (S.other L F h)
 have s:Hid ((∀j (F:j<R[i].h.length),R[i].h[j].num≠o.n)->ay st o=(st,⟨5,0,⟨#[]⟩⟩)):=fun h=>od q hk (by rw [z];exact lU h)
 have u:Hid (∀r (hr:r<R[i].h.length),R[i].h[r].num=o.n->(∀j (F:j<R[i].h.length),j<r->R[i].h[j].num≠o.n)->ay st o=(st,if R[i].h[r].mark then ⟨6,0,⟨#[]⟩⟩ else ⟨0,0,R[i].h[r].body⟩)):=fun r hr h1 h2=>sY _ q hk (by rw [z];exact lW hr h1 h2) (by rw [z,eL hr])
 have hkk:=q;clear H S A hk hv hmem hpos x0 z;generalize ay st o=Z at *;obtain ⟨kind,key,body,a,b,m,c⟩:=o;simp only at hkk HIK Q s u;subst hkk;have hii:(i:Int)<(R.length:Int):=by omega
 unfold bL bh;go_enter (Yq.nq func82),ntmps82;go_wp2_with fail
 refine (iy B k _ R nx tm key _ ((HH.out.1.alloc _).alloc _) (by omega)).mono ?_;rintro e w1 ⟨rfl,⟨j,F,C,rfl⟩|⟨hno,-⟩⟩
 rotate_left
 .exact absurd HIK.out (hno _ (List.getElem_mem L))
 have hji:=Q.out j F C;subst hji;clear C;have hne1:¬ge=w.heap.size:=by omega
 have hne2:¬ge=w.heap.size+1:=by omega
 have hne3:¬V=w.heap.size:=by omega
 have hne4:¬V=w.heap.size+1:=by omega
 have hne5:¬k=w.heap.size:=by omega
 have hne6:¬k=w.heap.size+1:=by omega
 go_wp2_with fail
 have O:Below w.heap.size w ((w.alloc (.cells #[.int .i64 3,.string key,.string body,.string a,.string b,.int .i64 m,.int .i64 c] 31)).alloc (.cells #[.int .i64 0,.int .i64 0,.string ⟨#[]⟩,.slice none 0 0,.string ⟨#[]⟩] 36)):=((bR _ w).alloc (lR _) _).alloc (by simp) _;have RA:=DD (w.alloc (.cells #[.int .i64 3,.string key,.string body,.string a,.string b,.int .i64 m,.int .i64 c] 31)) (w.heap.size+1) (by simp) 36;have E:Below (w.alloc (.cells #[.int .i64 3,.string key,.string body,.string a,.string b,.int .i64 m,.int .i64 c] 31)).heap.size (w.alloc (.cells #[.int .i64 3,.string key,.string body,.string a,.string b,.int .i64 m,.int .i64 c] 31)) ((w.alloc (.cells #[.int .i64 3,.string key,.string body,.string a,.string b,.int .i64 m,.int .i64 c] 31)).alloc (.cells #[.int .i64 0,.int .i64 0,.string ⟨#[]⟩,.slice none 0 0,.string ⟨#[]⟩] 36)):=(bR _ _).alloc (lR _) _;have o0:((w.alloc (.cells #[.int .i64 3,.string key,.string body,.string a,.string b,.int .i64 m,.int .i64 c] 31)).alloc (.cells #[.int .i64 0,.int .i64 0,.string ⟨#[]⟩,.slice none 0 0,.string ⟨#[]⟩] 36)).cell? ⟨w.heap.size,0,none⟩=some (.int .i64 3):=ai E (by rw [cA (w:=w) _ _ w.heap.size 0 rfl];rfl);have o5:((w.alloc (.cells #[.int .i64 3,.string key,.string body,.string a,.string b,.int .i64 m,.int .i64 c] 31)).alloc (.cells #[.int .i64 0,.int .i64 0,.string ⟨#[]⟩,.slice none 0 0,.string ⟨#[]⟩] 36)).cell? ⟨w.heap.size,5,none⟩=some (.int .i64 m):=ai E (by rw [cA (w:=w) _ _ w.heap.size 5 rfl];rfl);have HW:Hid (Below w.heap.size w ((w.alloc (.cells #[.int .i64 3,.string key,.string body,.string a,.string b,.int .i64 m,.int .i64 c] 31)).alloc (.cells #[.int .i64 0,.int .i64 0,.string ⟨#[]⟩,.slice none 0 0,.string ⟨#[]⟩] 36))/\iY (w.heap.size+1) ((w.alloc (.cells #[.int .i64 3,.string key,.string body,.string a,.string b,.int .i64 m,.int .i64 c] 31)).alloc (.cells #[.int .i64 0,.int .i64 0,.string ⟨#[]⟩,.slice none 0 0,.string ⟨#[]⟩] 36))/\((w.alloc (.cells #[.int .i64 3,.string key,.string body,.string a,.string b,.int .i64 m,.int .i64 c] 31)).alloc (.cells #[.int .i64 0,.int .i64 0,.string ⟨#[]⟩,.slice none 0 0,.string ⟨#[]⟩] 36)).cell? ⟨w.heap.size,0,none⟩=some (.int .i64 3)/\((w.alloc (.cells #[.int .i64 3,.string key,.string body,.string a,.string b,.int .i64 m,.int .i64 c] 31)).alloc (.cells #[.int .i64 0,.int .i64 0,.string ⟨#[]⟩,.slice none 0 0,.string ⟨#[]⟩] 36)).cell? ⟨w.heap.size,5,none⟩=some (.int .i64 m)):=⟨O,RA,o0,o5⟩;clear O RA E o0 o5;generalize ((w.alloc (.cells #[.int .i64 3,.string key,.string body,.string a,.string b,.int .i64 m,.int .i64 c] 31)).alloc (.cells #[.int .i64 0,.int .i64 0,.string ⟨#[]⟩,.slice none 0 0,.string ⟨#[]⟩] 36))=Wz at *
 go_loopw [8] (fun s8 wr=>∃r:Nat,r<=R[j].h.length/\s8=.int .i64 r/\(∀t (ht:t<R[j].h.length),t<r->R[j].h[t].num≠m)/\Below Wz.heap.size Wz wr) (fun s8 _=>R[j].h.length-(intOf s8).toNat)
 case atStart=>exact ⟨0,Nat.zero_le _,rfl,fun t ht h=>absurd h (by omega),bR _ _⟩
 case round=>
  obtain ⟨r,hrm,rfl,hno,hb⟩:=hrel;have G:Hid (∀t (ht:t<R[j].h.length),t<r->R[j].h[t].num≠m):=hno;have HB:Hid (Below w.heap.size w wr/\iY (w.heap.size+1) wr):=⟨HW.out.1.trans (hb.mono HW.out.1.size),HW.out.2.1.on hb⟩;have o0:=ai hb HW.out.2.2.1;have o5:=ai hb HW.out.2.2.2;have U:Hid (Below Wz.heap.size Wz wr):=hb;clear hno hb;by_cases I:r<R[j].h.length
  .skip
   obtain ⟨gv',vcap',P,-,z0,z1,z2⟩:=HH.out.1.ver j F r I;rw [HH.out.2.2] at P;cases P;replace z0:=ai HB.out.1 z0;replace z1:=ai HB.out.1 z1;replace z2:=ai HB.out.1 z2;have hri:(r:Int)<(R[j].h.length:Int):=by omega
   by_cases d:R[j].h[r].num=m
   .have HS:=u.out r I d G.out;have p:Hid (Z=(st,if R[j].h[r].mark then ⟨6,0,⟨#[]⟩⟩ else ⟨0,0,R[j].h[r].body⟩)):=HS;have K:(R[j].h[r].num != m)=false:=by simp [d]
    clear HS d;generalize R[j].h[r]=v at *;obtain ⟨vn,Y,vm⟩:=v;simp only at z0 z1 z2 K p;go_wp2_with fail
    go_quiet (fail)
    have hq:Below wr.heap.size wr (wr.drewN nq):=below_drewN (bR _ _) _;have z1':=ai hq z1;have z2':=ai hq z2;have o0':=ai hq o0;have y:Hid (Below w.heap.size w (wr.drewN nq)/\iY (w.heap.size+1) (wr.drewN nq)):=⟨HB.out.1.trans (hq.mono HB.out.1.size),HB.out.2.on hq⟩;clear z0 z1 z2 o0 o5 hq;generalize wr.drewN nq=wq at *;cases vm with
    |true=>
     go_wp2_with fail
     refine (eA 6 _).mono ?_;rintro e w2 ⟨rfl,D⟩;have J:Hid (Below w.heap.size w w2):=y.out.1.trans (D.mono y.out.1.size);obtain ⟨d0,d1,d2,d3,d4,l⟩:=y.out.2.on D;have g0:=l 0;have g1:=l 1;have g2:=l 2;have g3:=l 3;have g4:=l 4;clear D l;unfold aA;go_wp2;refine bodyPost_ret (v:=aA ⟨6,0,⟨#[]⟩⟩) (by simp [results,results82,go_sem,aA,d0,d1,d2,d3,d4]) rfl ⟨by rw [p.out];rfl,?_⟩;have hb:=cT J.out (x:=w.heap.size+1) (by omega) (.int .i64 6) (.int .i64 0) (.string ⟨#[]⟩) (.slice none 0 0) (.string ⟨#[]⟩);exact ⟨_,R,nx,HH.out.1.below hb,by rw [p.out];exact HH.out.2.1,ba hkw hb _ _⟩
    |false=>
     obtain ⟨d0,d1,d2,d3,d4,l⟩:=y.out.2;have g0:=l 0;have g1:=l 1;have g2:=l 2;have g3:=l 3;have g4:=l 4;clear l;go_wp2;refine bodyPost_ret (v:=aA ⟨0,0,Y⟩) (by simp [results,results82,go_sem,aA,d0,d1,d2,d3,d4]) rfl ⟨by rw [p.out];rfl,?_⟩;have hb:=cT y.out.1 (x:=w.heap.size+1) (by omega) (.int .i64 0) (.int .i64 0) (.string Y) (.slice none 0 0) (.string ⟨#[]⟩);exact ⟨_,R,nx,HH.out.1.below hb,by rw [p.out];exact HH.out.2.1,ba hkw hb _ _⟩
   .have K:(R[j].h[r].num != m)=true:=by simp [d]
    have T:Hid (R[j].h[r].num≠m):=d;generalize R[j].h[r].num=vn at z0 K d;clear z1 z2 d;go_wp2_with fail
    go_quiet (fail)
    go_wp2_with fail
    refine ⟨⟨r+1,I,by go_num,fun t ht hlt=>?_,below_drewN U.out _⟩,by simp [intOf];omega⟩;rcases Nat.lt_or_ge t r with h1|h1
    .exact G.out t ht h1
    .have:t=r:=by omega
     subst this;exact T.out
  .have X:r=R[j].h.length:=by omega
   subst X;have p:Hid (Z=(st,⟨5,0,⟨#[]⟩⟩)):=s.out (fun t ht=>G.out t ht ht);go_wp2_with fail
   refine (eA 5 _).mono ?_;rintro e w2 ⟨rfl,D⟩;have J:Hid (Below w.heap.size w w2):=HB.out.1.trans (D.mono HB.out.1.size);obtain ⟨d0,d1,d2,d3,d4,l⟩:=HB.out.2.on D;have g0:=l 0;have g1:=l 1;have g2:=l 2;have g3:=l 3;have g4:=l 4;clear D l;unfold aA;go_wp2;refine bodyPost_ret (v:=aA ⟨5,0,⟨#[]⟩⟩) (by simp [results,results82,go_sem,aA,d0,d1,d2,d3,d4]) rfl ⟨by rw [p.out],?_⟩;have hb:=cT J.out (x:=w.heap.size+1) (by omega) (.int .i64 5) (.int .i64 0) (.string ⟨#[]⟩) (.slice none 0 0) (.string ⟨#[]⟩);exact ⟨_,R,nx,HH.out.1.below hb,by rw [p.out];exact HH.out.2.1,ba hkw hb _ _⟩
theorem mA {st:St}{o:OpD}(a:o.kind=5)(hk:aI o.key=true)(hp:ci (st.f o.key.data.toList) o.n=none):ay st o=(st,⟨5,0,⟨#[]⟩⟩):=by
 simp [ay,a,hk,hp]
theorem qz {st:St}{o:OpD}{r:Nat}(a:o.kind=5)(hk:aI o.key=true)(hp:ci (st.f o.key.data.toList) o.n=some r):ay st o=(bG st o.key r,⟨0,0,⟨#[]⟩⟩):=by
 simp [ay,a,hk,hp]
theorem Sim.dropSome {st:St}{R:List br}{nx:Int}(S:Sim st R nx){i:Nat}(d:i<R.length){key:ByteArray}(hk:R[i].key=key){r:Nat}(hr:r<R[i].h.length)(v:Wx)(hne:R[i].h.take r++R[i].h.drop (r+1)≠[]):Sim (bG st key r) (R.set i ⟨R[i].key,R[i].h.take r++R[i].h.drop (r+1),v⟩) nx:=by
 subst hk;have ht:=wB R i d ⟨R[i].key,R[i].h.take r++R[i].h.drop (r+1),v⟩;have hl:(R[i].h.take r++R[i].h.drop (r+1)).length=R[i].h.length-1:=by rw [lP,tL,lD];omega
 simp only [hl] at ht;have hcnt:=S.count;have hlim:=S.lim;refine ⟨S.next,?_,?_,?_,?_,?_,by omega⟩
 .intro e he;rcases kY he with rfl|⟨j,c,-,rfl⟩
  .exact hne
  .exact S.full _ (List.getElem_mem c)
 .rw [List.pairwise_iff_getElem];intro a b ha hb l;rw [List.length_set] at ha hb;rw [List.getElem_set,List.getElem_set];by_cases h1:i=a
  .have h2:¬i=b:=by omega
   rw [if_pos h1,if_neg h2];exact fun e=>S.other d hb (by omega) e.symm
  .rw [if_neg h1];by_cases h2:i=b
   .rw [if_pos h2];exact S.other d ha (by omega)
   .rw [if_neg h2];have hp:=S.keys;rw [List.pairwise_iff_getElem] at hp;exact hp a b ha hb l
 .intro e he;rcases kY he with rfl|⟨j,c,hji,rfl⟩
  .simp [bG,upd,S.here _ (List.getElem_mem d)]
  .have hne:R[j].key.data.toList≠R[i].key.data.toList:=fun e=>S.other d c hji (iz e)
   simp [bG,upd,hne,S.here _ (List.getElem_mem c)]
 .intro k hk;have h1:=hk _ (pf (x:=⟨R[i].key,R[i].h.take r++R[i].h.drop (r+1),v⟩) d);have h2:st.f k=[]:=S.gone k (fun e he=>by
   obtain ⟨j,c,rfl⟩:=gM he;by_cases hji:j=i
   .subst hji;exact h1
   .exact hk _ (pi c hji))
  simp only [bG,upd];rw [if_neg (fun e=>h1 e.symm)];exact h2
 .show st.count-1=_;omega
theorem Sim.dropLast {st:St}{R:List br}{nx:Int}(S:Sim st R nx){i:Nat}(l:i<R.length){key:ByteArray}(hk:R[i].key=key){r:Nat}(hr:r<R[i].h.length)(hne:R[i].h.take r++R[i].h.drop (r+1)=[]):Sim (bG st key r) (R.take i++R.drop (i+1)) nx:=by
 subst hk;have h1:R=R.take i++([R[i]]++R.drop (i+1)):=by simp
 have hl:(R[i].h.take r++R[i].h.drop (r+1)).length=R[i].h.length-1:=by rw [lP,tL,lD];omega
 rw [hne] at hl;have ht:totR R=totR (R.take i++R.drop (i+1))+1:=by
  have h3:=congrArg totR h1;rw [h3,dl,dl,dl];have:totR [R[i]]=R[i].h.length:=by simp [totR]
  simp only [lN] at hl;omega
 have hcnt:=S.count;have hlim:=S.lim;have hsub:∀e∈R.take i++R.drop (i+1),e∈R:=fun e he=>by
  rcases List.mem_append.1 he with h|h
  .exact List.mem_of_mem_take h
  .exact List.mem_of_mem_drop h
 have hpk:=S.keys;rw [h1,List.pairwise_append] at hpk;obtain ⟨hp1,j,f⟩:=hpk;have hp2':=List.pairwise_append.1 j;have d:∀e∈R.take i++R.drop (i+1),e.key≠R[i].key:=fun e he=>by
  rcases List.mem_append.1 he with h|h
  .exact f e h R[i] (List.mem_append_left _ (List.mem_singleton.2 rfl))
  .exact fun h2=>hp2'.2.2 R[i] (List.mem_singleton.2 rfl) e h h2.symm
 refine ⟨S.next,fun e he=>S.full e (hsub e he),?_,?_,?_,?_,by omega⟩
 .rw [List.pairwise_append];exact ⟨hp1,hp2'.2.1,fun a ha b hb=>f a ha b (List.mem_append_right _ hb)⟩
 .intro e he;have hk:e.key.data.toList≠R[i].key.data.toList:=fun h=>d e he (iz h)
  simp [bG,upd,hk,S.here _ (hsub e he)]
 .intro k hk;simp only [bG,upd];by_cases c:k=R[i].key.data.toList
  .rw [if_pos c,S.here _ (List.getElem_mem l)];exact hne
  .rw [if_neg c];refine S.gone k (fun e he=>?_);rw [h1] at he;rcases List.mem_append.1 he with h|h
   .exact hk e (List.mem_append_left _ h)
   .rcases List.mem_append.1 h with h2|h2
    .simp only [List.mem_cons,List.not_mem_nil,or_false] at h2;subst h2;exact fun e=>c e.symm
    .exact hk e (List.mem_append_right _ h2)
 .show st.count-1=_;omega
theorem ax.putNew {B:Nat}{w w1:Wj}{k:Nat}{sl sl':Wx}{R R':List br}{nx tm:Int}(H:ax B w k sl R nx tm)(hg:Below w.heap.size w w1)(ho:w1.ownsRow w.heap.size 154 2 sl' R'.length (az R'))(f:B<=w.heap.size)(hv:∀e∈R',e∈R)(hpw:R'.Pairwise (fun a b=>a.v.ownBlock≠b.v.ownBlock))(c:∀e∈R',e.v.ownBlock≠none):
  ax B (w1.setCell ⟨k,0,none⟩ sl') k sl' R' nx tm:=by
 have hk:=H.lt;have hset:=cR w1 k 0 sl';have d:sl'.ownBlock≠some k:=fun e=>by have:=(ho.lt k e).1;omega
 have H1:=H.below hg;refine ⟨H1.cells.set0 _,(iq ho f).kept hset (Or.inr d),fun e he=>(H1.vers e (hv e he)).kept hset (Or.inr (H1.apartV e (hv e he))),d,fun e he=>H1.apartV e (hv e he),?_,hpw⟩;intro e he h2;cases hb:e.v.ownBlock with
 |none=>exact c e he hb
 |some b=>
  have h3:=((H.vers e (hv e he)).lt b hb).2;rw [hb] at h2;have:=(ho.lt b h2.symm).1;omega
theorem FP {B k:Nat}{tm nx:Int}{st:St}{w wq wc:Wj}{ge a j:Nat}{R:List br}{v':Wx}{h':List Ver}(l:j<R.length)(S:Sim st R nx)(H:ax B w k (.slice (some ⟨ge,0,none⟩) R.length a) R nx tm)(Hq:ax B wq k (.slice (some ⟨ge,0,none⟩) R.length a) R nx tm)
  (hbq:Below w.heap.size w wq) (c:Below wq.heap.size wq wc) (ho:wc.ownsRow wq.heap.size 145 3 v' h'.length (am h')) (RA:iY (w.heap.size+1) wc) (hx:w.heap.size+1<wq.heap.size) (h:B<=wq.heap.size):
  ax B (wc.setCell ⟨ge,j * 2+1,none⟩ v') k (.slice (some ⟨ge,0,none⟩) R.length a) (R.set j ⟨R[j].key,h',v'⟩) nx tm/\bg w (wc.setCell ⟨ge,j * 2+1,none⟩ v') k (.slice (some ⟨ge,0,none⟩) R.length a) R/\iY (w.heap.size+1) (wc.setCell ⟨ge,j * 2+1,none⟩ v') /\
   (Value.slice (some ⟨ge,0,none⟩) R.length a).ownBlock≠some (w.heap.size+1)/\(∀e∈R.set j ⟨R[j].key,h',v'⟩,e.v.ownBlock≠some (w.heap.size+1)):=by
 have hge:=(H.row.lt ge rfl).2;have hk:=H.lt;have hs0:=cR wc ge (j * 2+1) v';have hgk:ge≠k:=fun e=>H.apart (by rw [<-e];rfl)
 have hbw:Below w.heap.size w wc:=hbq.trans (c.mono hbq.size);have d:∀b,v'.ownBlock=some b->wq.heap.size<=b:=fun b e=>(ho.lt b e).1
 refine ⟨Hq.putV l (aS c none) (Or.inl rfl) (iq ho h) ?_ (fun i f _=>S.full _ (List.getElem_mem f)),?_,RA.grown hs0 (by simp;omega),by simp [Value.ownBlock];omega,?_⟩
 .cases hb:v'.ownBlock with
  |none=>exact Or.inl rfl
  |some b=>exact Or.inr (Or.inr ⟨b,rfl,d b hb⟩)
 .exact (ba hk hbw _ _).step hs0 (fun b _ e=>Or.inl e) (lL hk hbw.size) (by simpa using hgk)
 .intro e he;rcases kY he with rfl|⟨i,f,-,rfl⟩
  .intro hb;have:=d _ hb;omega
  .intro hb;have:=((H.vers _ (List.getElem_mem f)).lt _ hb).2;omega
theorem DG (R:List br)(j:Nat)(a:j<R.length)(x:br):(R.set j x).take j=R.take j:=by
 rw [List.set_eq_take_append_cons_drop,if_pos a];exact List.take_left' (by rw [tL];omega)
theorem DH (R:List br)(j:Nat)(a:j<R.length)(x:br):(R.set j x).drop (j+1)=R.drop (j+1):=by
 rw [List.set_eq_take_append_cons_drop,if_pos a,show R.take j++x::R.drop (j+1)=(R.take j++[x])++R.drop (j+1) by simp];exact List.drop_left' (by rw [lP,tL];simp;omega)
theorem lX {B:Nat}{w:Wj}{k:Nat}{sl:Wx}{R:List br}{nx tm:Int}(H:ax B w k sl R nx tm)(L:List br)(d:∀e∈L,e∈R):∀u∈az L,u.oneCell'=true:=by
 intro u b;obtain ⟨e,he,b⟩:=List.mem_flatMap.1 b;simp only [List.mem_cons,List.not_mem_nil,or_false] at b;rcases b with rfl|rfl
 .rfl
 .obtain ⟨a,c,hv,-⟩:=aE (H.vers e (d e he));rw [hv];rfl
theorem yy (B k:Nat)(sl:Wx)(R:List br)(nx tm:Int)(st:St)(o:OpD)(w:Wj)(H:ax B w k sl R nx tm)(S:Sim st R nx)(Q:o.kind=5)(hk:aI o.key=true)(i:Nat)(hi:i<R.length)(af:R[i].key=o.key)(hB:B<=w.heap.size):
  Calls Yq.prog 82 #[.pointer (some ⟨k,0,none⟩),bh o] w (bL B k (ay st o).1 (ay st o).2 w sl R tm):=by
 obtain ⟨i0,a4,a6,a3,a7⟩:=info_parts Yq.infoRver;have hlen:=gE R S.full;have hlim:=S.lim;have hkw:=H.lt;have hmem:R[i]∈R:=List.getElem_mem hi;have hpos:=List.length_pos_iff.2 (S.full _ hmem);have hml:=sX R i hi;have bd:st.f o.key.data.toList=R[i].h:=by rw [<-af];exact S.here _ hmem
 obtain ⟨gv,J,hv,-,hgl,cd⟩:=cP (H.vers _ hmem) hpos;obtain ⟨ge,s,rfl,-,hgel,x0,x1⟩:=H.ent i hi;rw [hv] at x1;have c0:=H.cells.c0;have HH:Hid (ax B w k (.slice (some ⟨ge,0,none⟩) R.length s) R nx tm/\Sim st R nx/\R[i].v=.slice (some ⟨gv,0,none⟩) R[i].h.length J):=⟨H,S,hv⟩;have HIK:Hid (R[i].key=o.key):=af;have b3:Hid (∀j (P:j<R.length),R[j].key=o.key->j=i):=fun j P al=>by
  by_cases h:j=i
  .exact h
  .exact absurd (al.trans af.symm) (S.other hi P h)
 have ab:Hid ((∀j (P:j<R[i].h.length),R[i].h[j].num≠o.n)->ay st o=(st,⟨5,0,⟨#[]⟩⟩)):=fun h=>mA Q hk (by rw [bd];exact lU h)
 have U:Hid (∀r (hr:r<R[i].h.length),R[i].h[r].num=o.n->(∀j (P:j<R[i].h.length),j<r->R[i].h[j].num≠o.n)->ay st o=(bG st o.key r,⟨0,0,⟨#[]⟩⟩)):=fun r hr h1 h2=>qz Q hk (by rw [bd];exact lW hr h1 h2)
 have hkk:=Q;clear H S af hk hv hmem hpos x0 bd;generalize ay st o=so at *;obtain ⟨kind,key,body,c,d,D,y⟩:=o;simp only at hkk HIK b3 ab U;subst hkk;have hii:(i:Int)<(R.length:Int):=by omega
 unfold bL bh;go_enter (Yq.nq func82),ntmps82;go_wp2_with fail
 refine (iy B k _ R nx tm key _ ((HH.out.1.alloc _).alloc _) (by omega)).mono ?_;rintro e w1 ⟨rfl,⟨j,P,al,rfl⟩|⟨hno,-⟩⟩
 rotate_left
 .exact absurd HIK.out (hno _ (List.getElem_mem hi))
 have hji:=b3.out j P al;subst hji;clear al;have hne1:¬ge=w.heap.size:=by omega
 have hne2:¬ge=w.heap.size+1:=by omega
 have hne3:¬gv=w.heap.size:=by omega
 have hne4:¬gv=w.heap.size+1:=by omega
 have hne5:¬k=w.heap.size:=by omega
 have hne6:¬k=w.heap.size+1:=by omega
 go_wp2_with fail
 have b6:Below w.heap.size w ((w.alloc (.cells #[.int .i64 5,.string key,.string body,.string c,.string d,.int .i64 D,.int .i64 y] 31)).alloc (.cells #[.int .i64 0,.int .i64 0,.string ⟨#[]⟩,.slice none 0 0,.string ⟨#[]⟩] 36)):=((bR _ w).alloc (lR _) _).alloc (by simp) _;have RA:=DD (w.alloc (.cells #[.int .i64 5,.string key,.string body,.string c,.string d,.int .i64 D,.int .i64 y] 31)) (w.heap.size+1) (by simp) 36;have be:Below (w.alloc (.cells #[.int .i64 5,.string key,.string body,.string c,.string d,.int .i64 D,.int .i64 y] 31)).heap.size (w.alloc (.cells #[.int .i64 5,.string key,.string body,.string c,.string d,.int .i64 D,.int .i64 y] 31)) ((w.alloc (.cells #[.int .i64 5,.string key,.string body,.string c,.string d,.int .i64 D,.int .i64 y] 31)).alloc (.cells #[.int .i64 0,.int .i64 0,.string ⟨#[]⟩,.slice none 0 0,.string ⟨#[]⟩] 36)):=(bR _ _).alloc (lR _) _;have o0:((w.alloc (.cells #[.int .i64 5,.string key,.string body,.string c,.string d,.int .i64 D,.int .i64 y] 31)).alloc (.cells #[.int .i64 0,.int .i64 0,.string ⟨#[]⟩,.slice none 0 0,.string ⟨#[]⟩] 36)).cell? ⟨w.heap.size,0,none⟩=some (.int .i64 5):=ai be (by rw [cA (w:=w) _ _ w.heap.size 0 rfl];rfl);have o5:((w.alloc (.cells #[.int .i64 5,.string key,.string body,.string c,.string d,.int .i64 D,.int .i64 y] 31)).alloc (.cells #[.int .i64 0,.int .i64 0,.string ⟨#[]⟩,.slice none 0 0,.string ⟨#[]⟩] 36)).cell? ⟨w.heap.size,5,none⟩=some (.int .i64 D):=ai be (by rw [cA (w:=w) _ _ w.heap.size 5 rfl];rfl);have HW:Hid (Below w.heap.size w ((w.alloc (.cells #[.int .i64 5,.string key,.string body,.string c,.string d,.int .i64 D,.int .i64 y] 31)).alloc (.cells #[.int .i64 0,.int .i64 0,.string ⟨#[]⟩,.slice none 0 0,.string ⟨#[]⟩] 36))/\iY (w.heap.size+1) ((w.alloc (.cells #[.int .i64 5,.string key,.string body,.string c,.string d,.int .i64 D,.int .i64 y] 31)).alloc (.cells #[.int .i64 0,.int .i64 0,.string ⟨#[]⟩,.slice none 0 0,.string ⟨#[]⟩] 36))/\((w.alloc (.cells #[.int .i64 5,.string key,.string body,.string c,.string d,.int .i64 D,.int .i64 y] 31)).alloc (.cells #[.int .i64 0,.int .i64 0,.string ⟨#[]⟩,.slice none 0 0,.string ⟨#[]⟩] 36)).cell? ⟨w.heap.size,0,none⟩=some (.int .i64 5)/\((w.alloc (.cells #[.int .i64 5,.string key,.string body,.string c,.string d,.int .i64 D,.int .i64 y] 31)).alloc (.cells #[.int .i64 0,.int .i64 0,.string ⟨#[]⟩,.slice none 0 0,.string ⟨#[]⟩] 36)).cell? ⟨w.heap.size,5,none⟩=some (.int .i64 D)):=⟨b6,RA,o0,o5⟩;clear b6 RA be o0 o5;generalize ((w.alloc (.cells #[.int .i64 5,.string key,.string body,.string c,.string d,.int .i64 D,.int .i64 y] 31)).alloc (.cells #[.int .i64 0,.int .i64 0,.string ⟨#[]⟩,.slice none 0 0,.string ⟨#[]⟩] 36))=Wz at *
 go_loopw [8] (fun s8 wr=>∃r:Nat,r<=R[j].h.length/\s8=.int .i64 r/\(∀t (ht:t<R[j].h.length),t<r->R[j].h[t].num≠D)/\Below Wz.heap.size Wz wr) (fun s8 _=>R[j].h.length-(intOf s8).toNat)
 case atStart=>exact ⟨0,Nat.zero_le _,rfl,fun t ht h=>absurd h (by omega),bR _ _⟩
 case round=>
  obtain ⟨r,hrm,rfl,hno,hb⟩:=hrel;have bk:Hid (∀t (ht:t<R[j].h.length),t<r->R[j].h[t].num≠D):=hno;have HB:Hid (Below w.heap.size w wr/\iY (w.heap.size+1) wr):=⟨HW.out.1.trans (hb.mono HW.out.1.size),HW.out.2.1.on hb⟩;have o0:=ai hb HW.out.2.2.1;have o5:=ai hb HW.out.2.2.2;have cr:Hid (Below Wz.heap.size Wz wr):=hb;clear hno hb;by_cases ac:r<R[j].h.length
  .skip
   obtain ⟨gv',vcap',b8,-,z0,z1,z2⟩:=HH.out.1.ver j P r ac;rw [HH.out.2.2] at b8;cases b8;replace z0:=ai HB.out.1 z0;replace z1:=ai HB.out.1 z1;replace z2:=ai HB.out.1 z2;have hri:(r:Int)<(R[j].h.length:Int):=by omega
   by_cases z:R[j].h[r].num=D
   .have HS:=U.out r ac z bk.out;have N:Hid (so=(bG st key r,⟨0,0,⟨#[]⟩⟩)):=HS;have bp:(R[j].h[r].num != D)=false:=by simp [z]
    clear HS z z1 z2;generalize R[j].h[r].num=vn at z0 bp;have hml2:R[j].h.length<=200:=by omega
    go_wp2_with fail
    go_quiet (fail)
    have hq:Below wr.heap.size wr (wr.drewN nq):=below_drewN (bR _ _) _;have o0':=ai hq o0;have I:Hid (Below w.heap.size w (wr.drewN nq)/\iY (w.heap.size+1) (wr.drewN nq)):=⟨HB.out.1.trans (hq.mono HB.out.1.size),HB.out.2.on hq⟩;clear z0 o0 o5 hq;generalize wr.drewN nq=wq at *;have a2:Hid (ax B wq k (.slice (some ⟨ge,0,none⟩) R.length s) R nx tm):=HH.out.1.below I.out.1;have cm:Hid (∀t u,(am (R[j].h.take r))[t]?=some u->wq.cell? ((⟨gv,0,none⟩:Addr).add t)=some u):=fun t u ht=>by
     have ho:=a2.out.vers _ (List.getElem_mem P);refine ho.cells (g:=gv) (by rw [HH.out.2.2];rfl) t u ?_;have h3:am (R[j].h.take r)=(am R[j].h).take (r * 3):=(fT 3 _ (fun _=>rfl) R[j].h r).symm;rw [h3] at ht;rw [List.getElem?_take] at ht;split at ht
     .exact ht
     .cases ht
    have bo:(am (R[j].h.take r)).length=r * 3:=by rw [am,gt 3 _ (fun _=>rfl),tL];omega
    go_upto_region 20 with (at_builtin;go_loud (refine wpList_append_own _ rfl _ _ 152 rfl wq.heap.size 145 i0 _ 3 32 (Yq.u underlying152) a4 a6 a3 a7 rfl (by decide) _ 0 [] rfl (World.ownsRow_nil _ _ _ _) ⟨gv,0,none⟩ r J (am (R[j].h.take r)) rfl bo cm.out (eq _) (by simp only [maxLen];omega) (by omega) (lR _) ?_);intro v1 w1 ho1 hg1 _;obtain ⟨b1,cb,rfl,-⟩:=aE ho1)
    have K:Hid (Below wq.heap.size wq w1/\w1.ownsRow wq.heap.size 145 3 (.slice b1 r cb) r (am (R[j].h.take r))):=⟨(bR _ wq).grown (row:=none) hg1 (lR _) (fun k e=>by cases e),by simpa using ho1⟩;clear ho1 hg1;obtain ⟨q,hq⟩:∃q,R[j].h.length=r+1+q:=⟨R[j].h.length-(r+1),by omega⟩;have b9:(am (R[j].h.drop (r+1))).length=q * 3:=by rw [am,gt 3 _ (fun _=>rfl),lD];omega
    have b4:Hid (∀a:Addr,(a=⟨gv,(r+1) * 3,none⟩\/q=0)->∀t u,(am (R[j].h.drop (r+1)))[t]?=some u->w1.cell? (a.add t)=some u):=fun a ha t u ht=>by
     rcases ha with rfl|h0
     .have ho:=a2.out.vers _ (List.getElem_mem P);have h3:am (R[j].h.drop (r+1))=(am R[j].h).drop ((r+1) * 3):=(fU 3 _ (fun _=>rfl) R[j].h (r+1)).symm;rw [h3,List.getElem?_drop] at ht;have:=ai K.out.1 (ho.cells (g:=gv) (by rw [HH.out.2.2];rfl) _ u ht);rw [Addr.add_lit] at this ⊢;simpa using this
     .have:am (R[j].h.drop (r+1))=[]:=List.eq_nil_of_length_eq_zero (by omega);rw [this] at ht;simp at ht
    have h200:r+1+q<=200:=by omega
    have c2:r+1+q<=J:=by have:=cd;omega
    have b7:(R[j].h.take r++R[j].h.drop (r+1)).length=r+q:=by rw [lP,tL,lD];omega
    have a0:Hid ((R[j].h.take r++R[j].h.drop (r+1)).length=r+q):=b7;have b0:Hid ((R[j].h)[r]?≠none):=show (R[j].h)[r]?≠none by rw [eL ac];simp
    clear b7;rw [hq] at *;clear hq;have bw:Hid (∀ (v2:Wx) (w2:Wj),w2.ownsRow wq.heap.size 145 3 v2 (r+q) (am (R[j].h.take r)++am (R[j].h.drop (r+1)))->w1.grownBy w2 (Value.slice b1 r cb).ownBlock->Below wq.heap.size wq w2/\w2.ownsRow wq.heap.size 145 3 v2 (r+q) (am (R[j].h.take r++R[j].h.drop (r+1)))):=fun v2 w2 O Z=>⟨K.out.1.grown Z K.out.1.size (fun k e=>(K.out.2.lt k e).1),by
     have:am (R[j].h.take r++R[j].h.drop (r+1))=am (R[j].h.take r)++am (R[j].h.drop (r+1)):=by simp [am]
     rw [this];exact O⟩
    go_cut [9] (fun s9 wx=>∃l m,s9=.slice l (r+q) m/\Below wq.heap.size wq wx/\wx.ownsRow wq.heap.size 145 3 (.slice l (r+q) m) (r+q) (am (R[j].h.take r++R[j].h.drop (r+1))))
    case first=>
     by_cases a5:J=r+1
     .have cv:q=0:=by have:=c2;omega
      subst cv;subst a5;go_wp2_with (at_builtin;go_loud (refine wpList_append_own _ rfl _ _ 152 rfl wq.heap.size 145 i0 _ 3 32 (Yq.u underlying152) a4 a6 a3 a7 rfl (by decide) _ r _ rfl K.out.2 ⟨gv,0,none⟩ 0 0 (am (R[j].h.drop (r+1))) rfl b9 (b4.out _ (Or.inr rfl)) (eq _) (by simp only [maxLen];omega) (by omega) K.out.1.size ?_);intro v2 w2 O Z _;obtain ⟨l,m,rfl,-⟩:=aE O)
      go_meet
      case rel=>exact ⟨l,m,rfl,bw.out _ _ O Z⟩
     .go_wp2_with (at_builtin;refine wpList_append_own _ rfl _ _ 152 rfl wq.heap.size 145 i0 _ 3 32 (Yq.u underlying152) a4 a6 a3 a7 rfl (by decide) _ r _ rfl K.out.2 ⟨gv,(r+1) * 3,none⟩ q (J-(r+1)) (am (R[j].h.drop (r+1))) rfl b9 (b4.out _ (Or.inl rfl)) (eq _) (by simp only [maxLen];omega) (by omega) K.out.1.size ?_;intro v2 w2 O Z _;obtain ⟨l,m,rfl,-⟩:=aE O)
      go_meet
      case rel=>exact ⟨l,m,rfl,bw.out _ _ O Z⟩
    case rest=>
    obtain ⟨l,m,rfl,T,bb⟩:=hcut;have hbw:Below w.heap.size w wc:=I.out.1.trans (T.mono I.out.1.size);have HC:Hid (Below w.heap.size w wc/\Below wq.heap.size wq wc/\wc.ownsRow wq.heap.size 145 3 (.slice l (r+q) m) (r+q) (am (R[j].h.take r++R[j].h.drop (r+1)))/\ax B wc k (.slice (some ⟨ge,0,none⟩) R.length s) R nx tm/\iY (w.heap.size+1) wc):=⟨hbw,T,bb,HH.out.1.below hbw,I.out.2.on T⟩;have c0':=ai hbw c0;have x1':=ai hbw x1;have f1':=HC.out.2.2.2.1.row.frozenAt (j * 2+1);have HDP:=FP (v':=.slice l (r+q) m) (h':=R[j].h.take r++R[j].h.drop (r+1)) P HH.out.2.1 HH.out.1 a2.out I.out.1 T (by rw [a0.out];exact bb) (I.out.2.on T) I.out.2.lt (lT hB I.out.1.size);have HD:Hid (ax B (wc.setCell ⟨ge,j * 2+1,none⟩ (.slice l (r+q) m)) k (.slice (some ⟨ge,0,none⟩) R.length s) (R.set j ⟨R[j].key,R[j].h.take r++R[j].h.drop (r+1),.slice l (r+q) m⟩) nx tm/\bg w (wc.setCell ⟨ge,j * 2+1,none⟩ (.slice l (r+q) m)) k (.slice (some ⟨ge,0,none⟩) R.length s) R/\iY (w.heap.size+1) (wc.setCell ⟨ge,j * 2+1,none⟩ (.slice l (r+q) m)) /\
     (Value.slice (some ⟨ge,0,none⟩) R.length s).ownBlock≠some (w.heap.size+1)/\(∀e∈R.set j ⟨R[j].key,R[j].h.take r++R[j].h.drop (r+1),.slice l (r+q) m⟩,e.v.ownBlock≠some (w.heap.size+1))):=HDP
    clear hbw T bb HDP
    go_upto_region 22 with fail
    generalize wc.setCell ⟨ge,j * 2+1,none⟩ (.slice l (r+q) m)=F at *;obtain ⟨d0,d1,d2,d3,d4,E⟩:=HD.out.2.2.1;have g0:=E 0;have g1:=E 1;have g2:=E 2;have g3:=E 3;have g4:=E 4;clear E;by_cases hz:r+q=0
    .have cl:((r:Int)+(q:Int)==0)=true:=by simp;omega
     have e0:=HD.out.1.cells.c0;have e1:=HD.out.1.cells.fz 0;have hkd:=HD.out.1.lt;have M:Hid (ax B F k (.slice (some ⟨ge,0,none⟩) R.length s) (R.set j ⟨R[j].key,R[j].h.take r++R[j].h.drop (r+1),.slice l (r+q) m⟩) nx tm):=HD.out.1;obtain ⟨R1,ad⟩:∃R1,R1=R.set j ⟨R[j].key,R[j].h.take r++R[j].h.drop (r+1),.slice l (r+q) m⟩:=⟨_,rfl⟩;rw [<-ad] at M;have ap:Hid (R1=R.set j ⟨R[j].key,R[j].h.take r++R[j].h.drop (r+1),.slice l (r+q) m⟩):=ad;have bo:(az (R1.take j)).length=j * 2:=by rw [ix,tL,ad,List.length_set];omega
     clear ad;have ch:Hid (∀t u,(az (R1.take j))[t]?=some u->F.cell? ((⟨ge,0,none⟩:Addr).add t)=some u):=fun t u ht=>by
      refine M.out.row.cells (g:=ge) rfl t u ?_;have h3:az (R1.take j)=(az R1).take (j * 2):=(fT 2 _ (fun _=>rfl) R1 j).symm;rw [h3,List.getElem?_take] at ht;split at ht
      .exact ht
      .cases ht
     have cc:Hid (∀u∈az (R1.take j),u.oneCell'=true):=lX M.out _ (fun e he=>List.mem_of_mem_take he);obtain ⟨t0,a8,bi,bn,a1⟩:=info_parts Yq.infoREnt;have hec:R.length<=s:=by obtain ⟨_,_,he,-,-,h⟩:=cP HH.out.1.row (by omega);cases he;exact h
     go_upto_region 25 with (at_builtin;go_loud (refine wpList_append_own _ rfl _ _ 68 rfl F.heap.size 154 t0 _ 2 40 (Yq.u underlying68) a8 bi bn a1 rfl (by decide) _ 0 [] rfl (World.ownsRow_nil _ _ _ _) ⟨ge,0,none⟩ j s (az (R1.take j)) rfl bo ch.out cc.out (by simp only [maxLen];omega) (by omega) (lR _) ?_);intro v3 w3 ho3 bq _;obtain ⟨ca,bx,rfl,-⟩:=aE ho3)
     have G:Hid (Below F.heap.size F w3/\w3.ownsRow F.heap.size 154 2 (.slice ca j bx) j (az (R1.take j))):=⟨(bR _ F).grown (row:=none) bq (lR _) (fun k e=>by cases e),by simpa using ho3⟩;clear ho3 bq;have Y:(az (R1.drop (j+1))).length=(R.length-(j+1)) * 2:=by rw [ix,lD,ap.out,List.length_set]
     have bs:Hid (∀a:Addr,(a=⟨ge,(j+1) * 2,none⟩\/R.length-(j+1)=0)->∀t u,(az (R1.drop (j+1)))[t]?=some u->w3.cell? (a.add t)=some u):=fun a ha t u ht=>by
      rcases ha with rfl|h0
      .have h3:az (R1.drop (j+1))=(az R1).drop ((j+1) * 2):=(fU 2 _ (fun _=>rfl) R1 (j+1)).symm;rw [h3,List.getElem?_drop] at ht;have:=ai G.out.1 (M.out.row.cells (g:=ge) rfl _ u ht);rw [Addr.add_lit] at this ⊢;simpa using this
      .have:az (R1.drop (j+1))=[]:=List.eq_nil_of_length_eq_zero (by rw [Y,h0]);rw [this] at ht;simp at ht
     have bv:Hid (∀u∈az (R1.drop (j+1)),u.oneCell'=true):=lX M.out _ (fun e he=>List.mem_of_mem_drop he);have e0c:=ai G.out.1 e0;have ar:Hid (∀ (v4:Wx) (w4:Wj),w4.ownsRow F.heap.size 154 2 v4 (j+(R.length-(j+1))) (az (R1.take j)++az (R1.drop (j+1)))->w3.grownBy w4 (Value.slice ca j bx).ownBlock->Below F.heap.size F w4/\w4.ownsRow F.heap.size 154 2 v4 (j+(R.length-(j+1))) (az (R1.take j++R1.drop (j+1)))):=fun v4 w4 ho4 X=>⟨G.out.1.grown X G.out.1.size (fun k e=>(G.out.2.lt k e).1),by
      have:az (R1.take j++R1.drop (j+1))=az (R1.take j)++az (R1.drop (j+1)):=by simp [az]
      rw [this];exact ho4⟩
     go_cut [10] (fun s10 wx=>∃A C,s10=.slice A (j+(R.length-(j+1))) C/\Below F.heap.size F wx/\wx.ownsRow F.heap.size 154 2 (.slice A (j+(R.length-(j+1))) C) (j+(R.length-(j+1))) (az (R1.take j++R1.drop (j+1))))
     case first=>
      have hjl:j+1<=R.length:=P;by_cases a5:s=j+1
      .have a9:Hid (R.length-(j+1)=0):=show R.length-(j+1)=0 by omega
       subst a5;have c3:(az (R1.drop (j+1))).length=0 * 2:=by rw [Y,a9.out]
       go_wp2_with (at_builtin;go_loud (refine wpList_append_own _ rfl _ _ 68 rfl F.heap.size 154 t0 _ 2 40 (Yq.u underlying68) a8 bi bn a1 rfl (by decide) _ j _ rfl G.out.2 ⟨ge,0,none⟩ 0 0 (az (R1.drop (j+1))) rfl c3 (bs.out _ (Or.inr a9.out)) bv.out (by simp only [maxLen];omega) (by omega) G.out.1.size ?_);intro v4 w4 ho4 X _;obtain ⟨A,C,rfl,-⟩:=aE ho4)
       go_meet
       case rel=>
        have av:j+(R.length-(j+1))=j:=by rw [a9.out];rfl
        have h4:=ar.out (.slice A j C) _ (by rw [av];exact ho4) X;rw [av] at h4;rw [av];exact ⟨A,C,rfl,h4⟩
      .go_wp2_with (at_builtin;go_loud (refine wpList_append_own _ rfl _ _ 68 rfl F.heap.size 154 t0 _ 2 40 (Yq.u underlying68) a8 bi bn a1 rfl (by decide) _ j _ rfl G.out.2 ⟨ge,(j+1) * 2,none⟩ (R.length-(j+1)) (s-(j+1)) (az (R1.drop (j+1))) rfl Y (bs.out _ (Or.inl rfl)) bv.out (by simp only [maxLen];omega) (by omega) G.out.1.size ?_);intro v4 w4 ho4 X _;obtain ⟨A,C,rfl,-⟩:=aE ho4)
       go_meet
       case rel=>exact ⟨A,C,rfl,ar.out _ _ ho4 X⟩
     case rest=>
     obtain ⟨A,C,rfl,V,b5⟩:=hcut;have e0x:=ai V e0;have e1x:=(V.frozen (p:=⟨k,0,none⟩) hkd).trans e1;obtain ⟨d0,d1,d2,d3,d4,E⟩:=HD.out.2.2.1.on V;have g0:=E 0;have g1:=E 1;have g2:=E 2;have g3:=E 3;have g4:=E 4;have hk1:¬k=w.heap.size+1:=by omega
     have hk2:¬w.heap.size+1=k:=by omega
     have HZ:Hid (Below F.heap.size F wc/\wc.ownsRow F.heap.size 154 2 (.slice A (j+(R.length-(j+1))) C) (j+(R.length-(j+1))) (az (R1.take j++R1.drop (j+1)))):=⟨V,b5⟩;clear E V b5;go_wp2;refine bodyPost_ret (v:=aA ⟨0,0,⟨#[]⟩⟩) (by simp [results,results82,go_sem,aA,d0,d1,d2,d3,d4]) rfl ⟨by rw [N.out],?_⟩;obtain ⟨P1,P3,P4,P7,P8⟩:=HD.out;have hlt4:=P4.lt;have hwd:=P3.size;have bl:R1.take j++R1.drop (j+1)=R.take j++R.drop (j+1):=by rw [ap.out,DG R j P,DH R j P]
     have hsub:∀e∈R1.take j++R1.drop (j+1),e∈R1:=fun e he=>by
      rcases List.mem_append.1 he with h|h
      .exact List.mem_of_mem_take h
      .exact List.mem_of_mem_drop h
     have L:∀e∈R1.take j++R1.drop (j+1),e∈R:=fun e he=>by
      rw [bl] at he;rcases List.mem_append.1 he with h|h
      .exact List.mem_of_mem_take h
      .exact List.mem_of_mem_drop h
     have hput:=M.out.putNew (R':=R1.take j++R1.drop (j+1)) HZ.out.1 (by
       have hl:(R1.take j++R1.drop (j+1)).length=j+(R.length-(j+1)):=by rw [bl,lP,tL,lD];omega
       rw [hl];exact HZ.out.2) (by omega) hsub (by rw [<-List.eraseIdx_eq_take_drop_succ];exact M.out.pw.sublist (List.eraseIdx_sublist _ _))
      (fun e he=>qy (HH.out.1.vers e (L e he)) (List.length_pos_iff.2 (HH.out.2.1.full e (L e he))))
     have hg5:=iR (wc.setCell ⟨k,0,none⟩ (.slice A (j+(R.length-(j+1))) C)) (w.heap.size+1) (.int .i64 0) (.int .i64 0) (.string ⟨#[]⟩) (.slice none 0 0) (.string ⟨#[]⟩);have hkc:k<wc.heap.size:=lL hkd HZ.out.1.size;refine ⟨_,_,nx,hput.grown hg5 (by simp;omega) (Or.inr (fun e=>by have:=(HZ.out.2.lt _ e).1;omega)) (fun e he=>Or.inr (fun h=>by have:=((HH.out.1.vers e (L e he)).lt _ h).2;omega)),?_,(pj (P3.below HZ.out.1 hkd) _ hkc).step hg5 (fun b hb e=>by cases e;omega) hput.lt (by simp;omega)⟩;rw [N.out,bl];exact HH.out.2.1.dropLast P HIK.out (Nat.lt_of_not_le (fun h=>b0.out (List.getElem?_eq_none h))) (List.eq_nil_of_length_eq_zero (by rw [a0.out];exact hz))
    .have cl:((r:Int)+(q:Int)==0)=false:=by simp;omega
     go_wp2;refine bodyPost_ret (v:=aA ⟨0,0,⟨#[]⟩⟩) (by simp [results,results82,go_sem,aA,d0,d1,d2,d3,d4]) rfl ⟨by rw [N.out],?_⟩;have hg5:=iR F (w.heap.size+1) (.int .i64 0) (.int .i64 0) (.string ⟨#[]⟩) (.slice none 0 0) (.string ⟨#[]⟩);obtain ⟨P1,P3,-,P7,P8⟩:=HD.out;refine ⟨_,_,nx,P1.grown hg5 (by simp;omega) (Or.inr P7) (fun e he=>Or.inr (P8 e he)),?_,P3.step hg5 (fun b hb e=>by cases e;omega) P1.lt (by simp;omega)⟩;rw [N.out];exact HH.out.2.1.dropSome P HIK.out (Nat.lt_of_not_le (fun h=>b0.out (List.getElem?_eq_none h))) _ (fun e=>by have:=a0.out;rw [e] at this;simp at this;omega)
   .have bp:(R[j].h[r].num != D)=true:=by simp [z]
    have cp:Hid (R[j].h[r].num≠D):=z;generalize R[j].h[r].num=vn at z0 bp z;clear z1 z2 z;go_wp2_with fail
    go_quiet (fail)
    go_wp2_with fail
    refine ⟨⟨r+1,ac,by go_num,fun t ht hlt=>?_,below_drewN cr.out _⟩,by simp [intOf];omega⟩;rcases Nat.lt_or_ge t r with h1|h1
    .exact bk.out t ht h1
    .have:t=r:=by omega
     subst this;exact cp.out
  .have ck:r=R[j].h.length:=by omega
   subst ck;have N:Hid (so=(st,⟨5,0,⟨#[]⟩⟩)):=ab.out (fun t ht=>bk.out t ht ht);go_wp2_with fail
   refine (eA 5 _).mono ?_;rintro e w2 ⟨rfl,b2⟩;have c1:Hid (Below w.heap.size w w2):=HB.out.1.trans (b2.mono HB.out.1.size);obtain ⟨d0,d1,d2,d3,d4,E⟩:=HB.out.2.on b2;have g0:=E 0;have g1:=E 1;have g2:=E 2;have g3:=E 3;have g4:=E 4;clear b2 E;unfold aA;go_wp2;refine bodyPost_ret (v:=aA ⟨5,0,⟨#[]⟩⟩) (by simp [results,results82,go_sem,aA,d0,d1,d2,d3,d4]) rfl ⟨by rw [N.out],?_⟩;have hb:=cT c1.out (x:=w.heap.size+1) (by omega) (.int .i64 5) (.int .i64 0) (.string ⟨#[]⟩) (.slice none 0 0) (.string ⟨#[]⟩);exact ⟨_,R,nx,HH.out.1.below hb,by rw [N.out];exact HH.out.2.1,ba hkw hb _ _⟩
end
