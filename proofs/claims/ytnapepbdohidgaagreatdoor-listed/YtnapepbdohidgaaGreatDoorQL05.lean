/- A part. -/
import Derived.Test.YtnapepbdohidgaaGreatDoorQL04
import Derived.Conc.BesideWords
import Derived.Conc.LoneCalls
set_option maxHeartbeats 4000000
set_option maxRecDepth 100000
open Go renaming World->Wj,Value->Wx,Goroutine->Wk,Program->Wv,Frame->Wy,Addr->Wu,undef->Wo
namespace Go.Proofs.Qw
open Tryz
section
open Go.Conc Go.ConcX Go.ConcX.Gen
theorem bt {P:Wv}{c:Bool}{b:Wy}{a:Act}{k:List Item}{cs:List Wy}{w:Wj}{ops:Array Oper}{i:Nat}{rest:List Nat}{o:Oper}{K:Wk->Wj->Array Event->Prop}
  (h:∀K':Act->Wj->Prop,(∀a' w',K (G (b.at a' (.inRegion ops rest::k)) cs) w' (listed P b.fn a o w)->K' a' w')->uponK o a K' ((execOp a.eval o).run P w)) (ho:ops[i]?=some o:=by rfl) (hw:Region.wanted o (yielded ops a.tmps)=true:=by rfl) (hk:b.kind≠.early:=by decide):
  (stepG P c (G (b.at a (.inRegion ops (i::rest)::k)) cs) w).goes K:=goes_oper_k ho hw hk h
def jc:Code->Code
 | .seq a _=>a
 |c=>c
def dr:Code->Code
 | .seq _ b=>b
 |c=>c
def qG:Code->Array Oper
 | .region _ ops _=>ops
 |_=>#[]
def cF (fn:Func):Code:=fn.body.getD .skip
noncomputable def ui:Array Oper:=qG (jc (dr (dr (cF Tryz.f97))))
noncomputable def iU:Code:=dr (dr (dr (cF Tryz.f97)))
def qV (b:Bool)(p d a:ByteArray):Wx:=.agg #[.bool b,.string p,.string d,.string a]
def sV (root:Option Wu):Wx:=.agg #[.pointer root]
def ptr (n:Nat):Wx:=.pointer (some ⟨n,0,none⟩)
def dZ (n:Nat):Wx:=.func (.func 119) #[] #[ptr (n+3),ptr n,ptr (n+1)]
def eZ (n:Nat)(root:Option Wu)(b:Bool)(p d a:ByteArray)(x:Wx):Array Wx:=#[qV b p d a,sV root,ptr n,ptr (n+1),.chan none,ptr (n+3),.chan (some (n+2)),x,Wo]
def itW (W:Wj)(root:Option Wu)(c:Bool)(p d b:ByteArray)(a:Nat):Wj:=
 (((W.alloc (.cells #[.bool c,.string p,.string d,.string b] 93)).alloc (.cells #[.pointer root] 56)).alloc (.chan a #[] false 0 0 false)).alloc (.cells #[.chan (some (W.heap.size+2))] 193)
theorem D2:∃i,Tryz.prog.info? 41=some i/\i.bytes=32:=⟨Tryz.t41,by unfold Tables.info?;rw [if_pos (by rw [Tryz.types_size];decide)];exact type41,rfl⟩
theorem Cs (c:Wy)(cs:List Wy)(root:Option Wu)(n:Bool)(p d o:ByteArray)(W:Wj)(B:Nat)(hB:W.heap.size+4=B){Stop:Wk->Wj->Prop}
  (m:∀i,Stop (G ((base 97).at ⟨eZ W.heap.size root n p d o (dZ W.heap.size),[]⟩ [.inRegion ui [1],.code iU]) (c::cs)) ((itW W root n p d o 20).at i)):
  Goes Tryz.prog true AtRel (DB B) Stop 20 (G (Frame.enter Tryz.prog 97 #[qV n p d o,sV root] .normal) (c::cs)) W:=by
 obtain ⟨i41,l,k⟩:=D2;unfold qV sV;rw [enter_at _ func97 rfl]
 walk_nrmf Tryz.f97
 refine Goes.step rfl (fun j b=>?_);obtain ⟨i,a⟩:=b;subst a
 try simp only [alloc_at,setCell_at,bJ]
 rw [stepG_seq];simp only [goes_go];refine ⟨fun e he=>by simp at he,?_⟩;refine Goes.step rfl (fun j b=>?_);obtain ⟨i,a⟩:=b;subst a
 try simp only [bJ]
 rw [stepG_region];simp only [goes_go,lZ,lC,lN,Nat.reduceAdd,zA,List.range,List.range.loop];refine ⟨fun e he=>by simp at he,?_⟩;refine Goes.step rfl (fun j b=>?_);obtain ⟨i,a⟩:=b;subst a
 try simp only [bJ]
 refine bt (fun K f=>?_)
 go_simp
 refine f _ _ ⟨fun e he=>?_,?_⟩
 .have hm:=mem_listed he;simp [go_sem, *] at hm
  try (subst hm;exact evL_cell _ _ (fun h=>h) (by simp<;>omega))
 clear f K;refine Goes.step rfl (fun j b=>?_);obtain ⟨i,a⟩:=b;subst a
 try simp only [alloc_at,bJ]
 refine bt (fun K f=>?_)
 go_simp
 refine f _ _ ⟨fun e he=>?_,?_⟩
 .have hm:=mem_listed he;simp [go_sem, *] at hm
  try (subst hm;exact evL_cell _ _ (fun h=>h) (by simp<;>omega))
 clear f K;refine Goes.step rfl (fun j b=>?_);obtain ⟨i,a⟩:=b;subst a
 try simp only [alloc_at,bJ]
 refine bt (fun K f=>?_)
 go_simp
 refine f _ _ ⟨fun e he=>?_,?_⟩
 .have hm:=mem_listed he;simp [go_sem, *] at hm
  try (subst hm;exact evL_cell _ _ (fun h=>h) (by simp<;>omega))
 clear f K;refine Goes.step rfl (fun j b=>?_);obtain ⟨i,a⟩:=b;subst a
 try simp only [bJ]
 rw [stepG_region_end];simp only [goes_go];refine ⟨fun e he=>by simp at he,?_⟩;refine Goes.step rfl (fun j b=>?_);obtain ⟨i,a⟩:=b;subst a
 try simp only [bJ]
 rw [stepG_seq];simp only [goes_go];refine ⟨fun e he=>by simp at he,?_⟩;refine Goes.step rfl (fun j b=>?_);obtain ⟨i,a⟩:=b;subst a
 try simp only [bJ]
 rw [stepG_region];simp only [goes_go,lZ,lC,lN,Nat.reduceAdd,zA,List.range,List.range.loop];refine ⟨fun e he=>by simp at he,?_⟩;refine Goes.step rfl (fun j b=>?_);obtain ⟨i,a⟩:=b;subst a
 try simp only [bJ]
 refine bt (fun K f=>?_);have hmk:=fun w=>run_makeChan (P:=Tryz.prog) (w:=w) underlying193 l .i64 20 (by omega) (by rw [k];omega)
 have hmke:=fun w es=>events_makeChan (P:=Tryz.prog) (w:=w) underlying193 l .i64 20 (by omega) (by rw [k];omega) es
 simp only [Int.cast_ofNat_Int] at hmk hmke
 go_simp
 refine f _ _ ⟨fun e he=>?_,?_⟩
 .have hm:=mem_listed he;simp [go_sem, *] at hm
  try (subst hm;exact evL_cell _ _ (fun h=>h) (by simp<;>omega))
 clear f K;refine Goes.step rfl (fun j b=>?_);obtain ⟨i,a⟩:=b;subst a
 try simp only [alloc_at,bJ]
 refine bt (fun K f=>?_)
 go_simp
 refine f _ _ ⟨fun e he=>?_,?_⟩
 .have hm:=mem_listed he;simp [go_sem, *] at hm
  try (subst hm;exact evL_cell _ _ (fun h=>h) (by simp<;>omega))
 clear f K;refine Goes.step rfl (fun j b=>?_);obtain ⟨i,a⟩:=b;subst a
 try simp only [alloc_at,bJ]
 refine bt (fun K f=>?_)
 go_simp
 refine f _ _ ⟨fun e he=>?_,?_⟩
 .have hm:=mem_listed he;simp [go_sem,storedEv, *] at hm
  try (subst hm;exact evL_cell _ _ (fun h=>h) (by simp<;>omega))
 clear f K;refine Goes.step rfl (fun j b=>?_);obtain ⟨i,a⟩:=b;subst a
 try simp only [setCell_at,bJ]
 rw [stepG_region_end];simp only [goes_go];refine ⟨fun e he=>by simp at he,?_⟩;refine Goes.step rfl (fun j b=>?_);obtain ⟨i,a⟩:=b;subst a
 try simp only [bJ]
 rw [stepG_seq];simp only [goes_go];refine ⟨fun e he=>by simp at he,?_⟩;refine Goes.step rfl (fun j b=>?_);obtain ⟨i,a⟩:=b;subst a
 try simp only [bJ]
 rw [stepG_region];simp only [goes_go,lZ,lC,lN,Nat.reduceAdd,zA,List.range,List.range.loop];refine ⟨fun e he=>by simp at he,?_⟩;refine Goes.step rfl (fun j b=>?_);obtain ⟨i,a⟩:=b;subst a
 try simp only [bJ]
 refine bt (fun K f=>?_)
 go_simp
 refine f _ _ ⟨fun e he=>?_,?_⟩
 .have hm:=mem_listed he;simp [go_sem, *] at hm
  try (subst hm;exact evL_cell _ _ (fun h=>h) (by simp<;>omega))
 clear f K;refine Goes.stop (fun j b=>?_);obtain ⟨i,a⟩:=b;subst a;exact m i
end
section
open Go.Conc Go.ConcX Go.ConcX.Gen Go.RowKit
structure Lst where
 num:Int
 root:Option Wu
 vs:Bool
 p:ByteArray
 d:ByteArray
 af:ByteArray
 size:Int
 left:Int
def bN (l:Lst):Array Wx:=#[.int .i64 l.num,.pointer l.root,.bool l.vs,.string l.p,.string l.d,.string l.af,.int .i64 l.size,.int .i64 l.left]
def lV (l:Lst):Wx:=.agg (bN l)
def pgW (W:Wj)(l:Lst):Wj:=
 ((W.alloc (.cells (bN l) 125)).alloc (.cells #[.slice none 0 0,.string ⟨#[]⟩] 88)).alloc (.cells #[.slice none 0 0,.string ⟨#[]⟩] 88)
noncomputable def bP:Code:=dr (dr (dr (dr (cF Tryz.f69))))
noncomputable def rq:Array Oper:=qG (jc (jc bP))
noncomputable def lw:List Item:=[.code (dr (jc bP)),.code (dr bP)]
def jI (n:Nat)(l:Lst)(a:Int):Array Wx:=
 #[lV l,.int .i64 a,ptr n,Wo,ptr (n+1),ptr (n+2),.int .i64 (IntKind.i64.wrap (a * l.size)),.int .i64 0,Wo,.int .i64 a,.pointer (some ⟨n,6,none⟩),.int .i64 l.size,.int .i64 (IntKind.i64.wrap (a * l.size)),.pointer (some ⟨n,2,none⟩),qV l.vs l.p l.d l.af,.pointer (some ⟨n,1,none⟩),sV l.root,Wo,Wo,Wo,Wo,Wo,Wo,Wo,Wo,Wo,Wo,Wo,Wo,Wo,Wo,Wo,Wo,Wo,Wo,Wo,Wo,Wo,Wo,Wo,Wo,Wo,Wo,Wo,Wo,Wo,Wo,Wo,Wo]
theorem EK:∃i,Yq.prog.info? 41=some i/\i.bytes=32:=by
 rw [Yq.tables];exact D2
theorem Ct (l:Lst)(e:Int)(cs:List Wy)(w:Wj):Steps Yq.prog (lone ((base 69).at ⟨#[lV l,.int .i64 e]++Array.replicate 47 Wo,[]⟩ [.code Yq.b69]) cs w) (lone ((base 69).at ⟨jI w.heap.size l e,[]⟩ (.inRegion rq [4]::lw)) cs (pgW w l)):=by
 have h:LoneTo Yq.prog (fun g' w'=>g'=G ((base 69).at ⟨jI w.heap.size l e,[]⟩ (.inRegion rq [4]::lw)) cs/\w'=pgW w l) (G ((base 69).at ⟨#[lV l,.int .i64 e]++Array.replicate 47 Wo,[]⟩ [.code Yq.b69]) cs) w:=by
  obtain ⟨num,root,vs,p,d,af,size,left⟩:=l;refine LoneTo.goes (n:=40) ?_;unfold lV bN;dsimp only [Yq.b69,Tryz.f69,Option.getD]
  walk_nrm
  refine Goes.step rfl (fun c a=>?_);subst a;rw [stepG_seq];simp only [goes_go];refine ⟨trivial,?_⟩;refine Goes.step rfl (fun c a=>?_);subst a;rw [stepG_region];simp only [goes_go,lZ,lC,lN,Nat.reduceAdd,zA,List.range,List.range.loop];refine ⟨trivial,?_⟩;refine Goes.step rfl (fun c a=>?_);subst a;refine bt (fun K b=>?_)
  go_simp
  refine b _ _ ⟨trivial,?_⟩;clear b K;refine Goes.step rfl (fun c a=>?_);subst a;refine bt (fun K b=>?_)
  go_simp
  refine b _ _ ⟨trivial,?_⟩;clear b K;refine Goes.step rfl (fun c a=>?_);subst a;rw [stepG_region_end];simp only [goes_go];refine ⟨trivial,?_⟩;refine Goes.step rfl (fun c a=>?_);subst a;rw [stepG_seq];simp only [goes_go];refine ⟨trivial,?_⟩;refine Goes.step rfl (fun c a=>?_);subst a;rw [stepG_region];simp only [goes_go,lZ,lC,lN,zA,List.range,List.range.loop];refine ⟨trivial,?_⟩;refine Goes.step rfl (fun c a=>?_);subst a;refine bt (fun K b=>?_)
  go_simp
  refine b _ _ ⟨trivial,?_⟩;clear b K;refine Goes.step rfl (fun c a=>?_);subst a;rw [stepG_region_end];simp only [goes_go];refine ⟨trivial,?_⟩;refine Goes.step rfl (fun c a=>?_);subst a;rw [stepG_seq];simp only [goes_go];refine ⟨trivial,?_⟩;refine Goes.step rfl (fun c a=>?_);subst a;rw [stepG_region];simp only [goes_go,lZ,lC,lN,Nat.reduceAdd,zA,List.range,List.range.loop];refine ⟨trivial,?_⟩;refine Goes.step rfl (fun c a=>?_);subst a;refine bt (fun K b=>?_)
  go_simp
  refine b _ _ ⟨trivial,?_⟩;clear b K;refine Goes.step rfl (fun c a=>?_);subst a;refine bt (fun K b=>?_)
  go_simp
  refine b _ _ ⟨trivial,?_⟩;clear b K;refine Goes.step rfl (fun c a=>?_);subst a;refine bt (fun K b=>?_)
  go_simp
  refine b _ _ ⟨trivial,?_⟩;clear b K;refine Goes.step rfl (fun c a=>?_);subst a;refine bt (fun K b=>?_)
  go_simp
  refine b _ _ ⟨trivial,?_⟩;clear b K;refine Goes.step rfl (fun c a=>?_);subst a;refine bt (fun K b=>?_)
  go_simp
  refine b _ _ ⟨trivial,?_⟩;clear b K;refine Goes.step rfl (fun c a=>?_);subst a;rw [stepG_region_end];simp only [goes_go];refine ⟨trivial,?_⟩;refine Goes.step rfl (fun c a=>?_);subst a;rw [stepG_seq];simp only [goes_go];refine ⟨trivial,?_⟩;refine Goes.step rfl (fun c a=>?_);subst a;rw [stepG_region];simp only [goes_go,lZ,lC,lN,zA,List.range,List.range.loop];refine ⟨trivial,?_⟩;refine Goes.step rfl (fun c a=>?_);subst a;refine bt (fun K b=>?_)
  go_simp
  refine b _ _ ⟨trivial,?_⟩;clear b K;refine Goes.step rfl (fun c a=>?_);subst a;rw [stepG_region_end];simp only [goes_go];refine ⟨trivial,?_⟩;refine Goes.step rfl (fun c a=>?_);subst a;rw [stepG_seq];simp only [goes_go];refine ⟨trivial,?_⟩;refine Goes.step rfl (fun c a=>?_);subst a;rw [stepG_seq];simp only [goes_go];refine ⟨trivial,?_⟩;refine Goes.step rfl (fun c a=>?_);subst a;rw [stepG_region];simp only [goes_go,lZ,lC,lN,Nat.reduceAdd,zA,List.range,List.range.loop];refine ⟨trivial,?_⟩;refine Goes.step rfl (fun c a=>?_);subst a;refine bt (fun K b=>?_)
  go_simp
  refine b _ _ ⟨trivial,?_⟩;clear b K;refine Goes.step rfl (fun c a=>?_);subst a;refine bt (fun K b=>?_)
  go_simp
  refine b _ _ ⟨trivial,?_⟩;clear b K;refine Goes.step rfl (fun c a=>?_);subst a;refine bt (fun K b=>?_)
  go_simp
  refine b _ _ ⟨trivial,?_⟩;clear b K;refine Goes.step rfl (fun c a=>?_);subst a;refine bt (fun K b=>?_)
  go_simp
  refine b _ _ ⟨trivial,?_⟩;clear b K;refine Goes.stop (fun c a=>?_);subst a;exact LoneTo.done ⟨rfl,rfl⟩
 obtain ⟨g',w',hs,rfl,rfl⟩:=h;exact hs
theorem uj {P:Wv}{ops:Array Oper}{a:Act}{w w':Wj}{i:Nat}{rest:List Nat}{o:Oper}{v:Wx}{b:Wy}{k:List Item}{cs:List Wy}(ho:ops[i]?=some o)(hw:Region.wanted o (yielded ops a.tmps)=true)(hr:(execOp a.eval o).run P w=.ok (.value v) w'):
  step P (lone (b.at a (.inRegion ops (i::rest)::k)) cs w)=.next (lone (b.at (a.put o.dst v) (.inRegion ops rest::k)) cs w'):=by
 have hg:=stepG_op (P:=P) (b:=b) (k:=k) (cs:=cs) (w:=w) (rest:=rest) ho hw;have c:(b.at a (.inRegion ops (i::rest)::k)).finish v=b.at (a.put o.dst v) (.inRegion ops rest::k):=by rw [Frame.finish_at,ho];rfl
 exact step_lone_go (by rw [hg,<-c];simp [stepG.apply,hr])
theorem pP {P:Wv}{ops:Array Oper}{a:Act}{w w':Wj}{i:Nat}{rest:List Nat}{o:Oper}{f:FuncId}{args:Array Wx}{b:Wy}{k:List Item}{cs:List Wy}(ho:ops[i]?=some o)(hw:Region.wanted o (yielded ops a.tmps)=true)(hr:(execOp a.eval o).run P w=.ok (.enter f args) w'):
  step P (lone (b.at a (.inRegion ops (i::rest)::k)) cs w)=.next (lone (Frame.enter P f args .normal) (b.at a (.inRegion ops (i::rest)::k)::cs) w'):=by
 have hg:=stepG_op (P:=P) (b:=b) (k:=k) (cs:=cs) (w:=w) (rest:=rest) ho hw;exact step_lone_go (by rw [hg];simp [stepG.apply,hr,Frame.at])
noncomputable def ew (n:Nat)(root:Option Wu)(b:Bool)(p d a:ByteArray)(x:Wx)(r:List Nat):Wy:=(base 97).at ⟨eZ n root b p d a x,[]⟩ [.inRegion Yq.itemsOps2 r,.code iU]
theorem zL (root:Option Wu)(vs:Bool)(p d af:ByteArray)(cs:List Wy)(w:Wj):Steps Yq.prog (lone (Frame.enter Yq.prog 97 #[qV vs p d af,sV root] .normal) cs w) (lone (Frame.enter Yq.prog 119 #[ptr (w.heap.size+3),ptr w.heap.size,ptr (w.heap.size+1)] .normal) (ew w.heap.size root vs p d af (dZ w.heap.size) [1,2]::cs) (itW w root vs p d af 1000)):=by
 have h:LoneTo Yq.prog (fun g' w'=>g'=G (ew w.heap.size root vs p d af (dZ w.heap.size) [1,2]) cs/\w'=itW w root vs p d af 1000) (G (Frame.enter Yq.prog 97 #[qV vs p d af,sV root] .normal) cs) w:=by
  obtain ⟨i41,hi41,hb41⟩:=EK;refine LoneTo.goes (n:=40) ?_;unfold qV sV;rw [enter_at _ Yq.func97 rfl];dsimp only [Yq.b97,Yq.itemsOps0,Yq.itemsOps1,Yq.itemsOps2,Yq.itemsOps3]
  walk_nrmf Tryz.f97
  refine Goes.step rfl (fun w₁ h₁=>?_);subst h₁;rw [stepG_seq];simp only [goes_go];refine ⟨trivial,?_⟩;refine Goes.step rfl (fun w₁ h₁=>?_);subst h₁;rw [stepG_region];simp only [goes_go,lZ,lC,lN,Nat.reduceAdd,zA,List.range,List.range.loop];refine ⟨trivial,?_⟩;refine Goes.step rfl (fun w₁ h₁=>?_);subst h₁;refine bt (fun K hK=>?_)
  go_simp
  refine hK _ _ ⟨trivial,?_⟩;clear hK K;refine Goes.step rfl (fun w₁ h₁=>?_);subst h₁;refine bt (fun K hK=>?_)
  go_simp
  refine hK _ _ ⟨trivial,?_⟩;clear hK K;refine Goes.step rfl (fun w₁ h₁=>?_);subst h₁;refine bt (fun K hK=>?_)
  go_simp
  refine hK _ _ ⟨trivial,?_⟩;clear hK K;refine Goes.step rfl (fun w₁ h₁=>?_);subst h₁;rw [stepG_region_end];simp only [goes_go];refine ⟨trivial,?_⟩;refine Goes.step rfl (fun w₁ h₁=>?_);subst h₁;rw [stepG_seq];simp only [goes_go];refine ⟨trivial,?_⟩;refine Goes.step rfl (fun w₁ h₁=>?_);subst h₁;rw [stepG_region];simp only [goes_go,lZ,lC,lN,Nat.reduceAdd,zA,List.range,List.range.loop];refine ⟨trivial,?_⟩;refine Goes.step rfl (fun w₁ h₁=>?_);subst h₁;refine bt (fun K hK=>?_);have hmk:=fun w=>run_makeChan (P:=Yq.prog) (w:=w) (Yq.u underlying193) hi41 .i64 1000 (by omega) (by rw [hb41];omega)
  simp only [Int.cast_ofNat_Int] at hmk
  go_simp
  refine hK _ _ ⟨trivial,?_⟩;clear hK K;refine Goes.step rfl (fun w₁ h₁=>?_);subst h₁;refine bt (fun K hK=>?_)
  go_simp
  refine hK _ _ ⟨trivial,?_⟩;clear hK K;refine Goes.step rfl (fun w₁ h₁=>?_);subst h₁;refine bt (fun K hK=>?_)
  go_simp
  refine hK _ _ ⟨trivial,?_⟩;clear hK K;refine Goes.step rfl (fun w₁ h₁=>?_);subst h₁;rw [stepG_region_end];simp only [goes_go];refine ⟨trivial,?_⟩;refine Goes.step rfl (fun w₁ h₁=>?_);subst h₁;rw [stepG_seq];simp only [goes_go];refine ⟨trivial,?_⟩;refine Goes.step rfl (fun w₁ h₁=>?_);subst h₁;rw [stepG_region];simp only [goes_go,lZ,lC,lN,Nat.reduceAdd,zA,List.range,List.range.loop];refine ⟨trivial,?_⟩;refine Goes.step rfl (fun w₁ h₁=>?_);subst h₁;refine bt (fun K hK=>?_)
  go_simp
  refine hK _ _ ⟨trivial,?_⟩;clear hK K;refine Goes.stop (fun w₁ h₁=>?_);subst h₁;exact LoneTo.done ⟨rfl,rfl⟩
 obtain ⟨g',w',hs,rfl,rfl⟩:=h
 refine Steps.trans hs (.one (pP (o := { dst := none, op := .call { callee := .value (.tmp 7), args := #[], argTypes := #[] }, type := 0, pos := "", after := #[], guard := none }) rfl rfl ?_))
 simp [go_sem,Act.eval,eZ,dZ]
def stopEntry (x y:Wx):PanicEntry:={v:=.iface 3 (.func (.func 69) #[x,y] #[]),recovered:=false}
def ij (x y:Wx):Array Wx:=#[x,y,Wo,Wo,Wo,Wo,Wo,Wo,Wo,Wo,Wo,Wo,Wo,Wo,Wo,Wo,Wo,Wo,Wo,Wo,Wo,Wo,Wo,Wo,Wo,Wo,Wo,Wo,Wo,Wo,Wo,Wo,Wo,Wo,Wo,Wo,Wo,Wo,Wo,Wo,Wo,Wo,Wo,Wo,Wo,Wo,Wo,Wo,Wo]
theorem rr (x y:Wx):#[x,y]++Array.replicate 47 Wo=ij x y:=Array.toList_inj.1 (by simp [ij,List.replicate])
theorem oy (x y:Wx):Frame.enter Yq.prog 69 #[x,y] .normal=(base 69).at ⟨ij x y,[]⟩ [.code (.seq Yq.magic Yq.b69)]:=by
 rw [enter_at _ Yq.func69 rfl,<-rr];rfl
theorem F8:Region.schedule (Yq.prog.follows .mixedOrders) Yq.drawOps 1=[1,0]:=by
 have h:∀b,Region.schedule b Yq.drawOps 1=[1,0]:=fun b=>by cases b<;>simp [Region.schedule,Region.linearise,Region.linearise.go,Region.departs,Yq.drawOps,List.range,List.range.loop]
 exact h _
theorem F9:Region.schedule (Yq.prog.follows .mixedOrders) Yq.drawOps 0=[0,1]:=by
 have h:∀b,Region.schedule b Yq.drawOps 0=[0,1]:=fun b=>by cases b<;>simp [Region.schedule,Region.linearise,Region.linearise.go,Region.departs,Yq.drawOps,List.range,List.range.loop]
 exact h _
def fc:Code:=.seq (.cond (.tmp 9) (.region 101 Yq.stopOps false) .skip) (.region 102 Yq.backOps false)
theorem oz (x y:Wx)(cs:List Wy)(w:Wj)(t:Nat)(r:List Nat)(hr:Region.schedule (Yq.prog.follows .mixedOrders) Yq.drawOps t=r)(ht:w.tape w.drawn (.order 69 100)=t):
  Steps Yq.prog (lone (Frame.enter Yq.prog 69 #[x,y] .normal) cs w) (lone ((base 69).at ⟨ij x y,[]⟩ [.inRegion Yq.drawOps r,.code fc,.code Yq.b69]) cs {w with drawn:=w.drawn+1}):=by
 rw [oy];refine .head step_seq (.head (step_seq (x:=.region 100 Yq.drawOps true) (y:=fc)) (.one ?_));have:=step_region_draw (P:=Yq.prog) (b:=base 69) (a:=⟨ij x y,[]⟩) (k:=[.code fc,.code Yq.b69]) (cs:=cs) (w:=w) (ops:=Yq.drawOps) (id:=100);rw [show (base 69).fn=69 from rfl,ht,hr] at this;exact this
theorem Cu (x y:Wx)(cs:List Wy)(w:Wj)(hr:Region.schedule (Yq.prog.follows .mixedOrders) Yq.drawOps (w.tape w.drawn (.order 69 100))=[1,0]):
  Steps Yq.prog (lone (Frame.enter Yq.prog 69 #[x,y] .normal) cs w) (lone ((base 69).at ⟨ij x y,[]⟩ [.code Yq.b69]) cs {w with drawn:=w.drawn+1}):=by
 refine Steps.trans (oz x y cs w _ _ hr rfl) ?_;generalize ({w with drawn:=w.drawn+1}:Wj)=u;have h:LoneTo Yq.prog (fun g' w'=>g'=G ((base 69).at ⟨ij x y,[]⟩ [.code Yq.b69]) cs/\w'=u) (G ((base 69).at ⟨ij x y,[]⟩ [.inRegion Yq.drawOps [1,0],.code fc,.code Yq.b69]) cs) u:=by
  refine LoneTo.goes (n:=20) ?_;generalize Yq.b69=bb;unfold ij Yq.drawOps fc;refine Goes.step rfl (fun b a=>?_);subst a;refine bt (fun K c=>?_)
  go_simp
  refine c _ _ ⟨trivial,?_⟩;clear c K;refine Goes.step rfl (fun b a=>?_);subst a;refine bt (fun K c=>?_)
  go_simp
  refine c _ _ ⟨trivial,?_⟩;clear c K;refine Goes.step rfl (fun b a=>?_);subst a;rw [stepG_region_end];simp only [goes_go];refine ⟨trivial,?_⟩;refine Goes.step rfl (fun b a=>?_);subst a;rw [stepG_seq];simp only [goes_go];refine ⟨trivial,?_⟩;refine Goes.step rfl (fun b a=>?_);subst a;rw [stepG_cond (t:=false) rfl];simp only [goes_go,Bool.false_eq_true,↓reduceIte];refine ⟨trivial,?_⟩;refine Goes.step rfl (fun b a=>?_);subst a;rw [stepG_skip];simp only [goes_go];refine ⟨trivial,?_⟩;unfold Yq.backOps;refine Goes.step rfl (fun b a=>?_);subst a;rw [stepG_region];simp only [goes_go,lZ,lC,lN,zA,List.range,List.range.loop];refine ⟨trivial,?_⟩;refine Goes.step rfl (fun b a=>?_);subst a;refine bt (fun K c=>?_)
  go_simp
  refine c _ _ ⟨trivial,?_⟩;clear c K;refine Goes.step rfl (fun b a=>?_);subst a;rw [stepG_region_end];simp only [goes_go];refine ⟨trivial,?_⟩;refine Goes.stop (fun b a=>?_);subst a;exact LoneTo.done ⟨rfl,rfl⟩
 obtain ⟨g',w',hs,rfl,rfl⟩:=h;exact hs
theorem ru (x y:Wx)(cs:List Wy)(w:Wj)(hr:Region.schedule (Yq.prog.follows .mixedOrders) Yq.drawOps (w.tape w.drawn (.order 69 100))=[0,1]):
  ∃fr,Steps Yq.prog (lone (Frame.enter Yq.prog 69 #[x,y] .normal) cs w) (lone fr cs {w with drawn:=w.drawn+1})/\fr.mode=.panicking [stopEntry x y]/\fr.defers=[]/\fr.fn=69:=by
 have h0:=oz x y cs w _ _ hr rfl;clear hr;generalize ({w with drawn:=w.drawn+1}:Wj)=u at h0 ⊢;have h:LoneTo Yq.prog (fun g' w'=>(∃a k,g'=G ((base 69).at a (.inRegion Yq.stopOps [2]::k)) cs/\a.eval (.tmp 11)=.iface 3 (.func (.func 69) #[x,y] #[])/\a.defers=[])/\w'=u) (G ((base 69).at ⟨ij x y,[]⟩ [.inRegion Yq.drawOps [0,1],.code fc,.code Yq.b69]) cs) u:=by
  refine LoneTo.goes (n:=20) ?_;generalize Yq.b69=bb;unfold ij Yq.drawOps fc;refine Goes.step rfl (fun w₁ h₁=>?_);subst h₁;refine bt (fun K hK=>?_)
  go_simp
  refine hK _ _ ⟨trivial,?_⟩;clear hK K;refine Goes.step rfl (fun w₁ h₁=>?_);subst h₁;refine bt (fun K hK=>?_)
  go_simp
  refine hK _ _ ⟨trivial,?_⟩;clear hK K;refine Goes.step rfl (fun w₁ h₁=>?_);subst h₁;rw [stepG_region_end];simp only [goes_go];refine ⟨trivial,?_⟩;refine Goes.step rfl (fun w₁ h₁=>?_);subst h₁;rw [stepG_seq];simp only [goes_go];refine ⟨trivial,?_⟩;refine Goes.step rfl (fun w₁ h₁=>?_);subst h₁;rw [stepG_cond (t:=true) rfl];simp only [goes_go,↓reduceIte];refine ⟨trivial,?_⟩;unfold Yq.stopOps;refine Goes.step rfl (fun w₁ h₁=>?_);subst h₁;rw [stepG_region];simp only [goes_go,lZ,lC,lN,Nat.reduceAdd,zA,List.range,List.range.loop];refine ⟨trivial,?_⟩;refine Goes.step rfl (fun w₁ h₁=>?_);subst h₁;refine bt (fun K hK=>?_)
  go_simp
  refine hK _ _ ⟨trivial,?_⟩;clear hK K;refine Goes.step rfl (fun w₁ h₁=>?_);subst h₁;refine bt (fun K hK=>?_)
  go_simp
  refine hK _ _ ⟨trivial,?_⟩;clear hK K;refine Goes.stop (fun w₁ h₁=>?_);subst h₁;exact LoneTo.done ⟨⟨_,_,rfl,rfl,rfl⟩,rfl⟩
 obtain ⟨g',w',hs,⟨⟨tm,df⟩,k,rfl,ha,hd⟩,rfl⟩:=h;refine ⟨{(base 69).at ⟨tm,df⟩ (.inRegion Yq.stopOps [2]::k) with mode:=.panicking [stopEntry x y]},Steps.trans h0 (Steps.trans hs (.one (step_lone_go ?_))),rfl,hd,rfl⟩
 have ho : Yq.stopOps[2]? = some { dst := none, op := .panic (.tmp 11), type := 0, pos := "", after := #[], guard := none } := rfl
 rw [stepG_op ho rfl]
 have e : execOp (Act.eval ⟨tm, df⟩) { dst := none, op := .panic (.tmp 11), type := 0, pos := "", after := #[], guard := none } = (do let v ← Instr.panic (Act.eval ⟨tm, df⟩ (.tmp 11)); pure (.value v)) := rfl
 rw [e,ha];rfl
theorem EL (l:Lst)(k:Int)(cs:List Wy)(W:Wj)(B:Nat)(hB:W.heap.size+7=B){Stop:Wk->Wj->Prop}
  (j:∀f,Stop (G (Frame.enter Tryz.prog 97 #[qV l.vs l.p l.d l.af,sV l.root] .normal) ((base 69).at ⟨jI W.heap.size l k,[]⟩ (.inRegion rq [4]::lw)::cs)) ((pgW W l).at f)):
  Goes Tryz.prog true AtRel (DB B) Stop 40 (G (Frame.enter Tryz.prog 69 #[lV l,.int .i64 k] .normal) cs) W:=by
 obtain ⟨num,root,vs,p,d,af,size,left⟩:=l;unfold lV bN;rw [enter_at _ func69 rfl]
 walk_nrmf Tryz.f69
 refine Goes.step rfl (fun i b=>?_);obtain ⟨f,a⟩:=b;subst a
 try simp only [alloc_at,setCell_at,bJ]
 rw [stepG_seq];simp only [goes_go];refine ⟨fun e he=>by simp at he,?_⟩;refine Goes.step rfl (fun i b=>?_);obtain ⟨f,a⟩:=b;subst a
 try simp only [bJ]
 rw [stepG_region];simp only [goes_go,lZ,lC,lN,Nat.reduceAdd,zA,List.range,List.range.loop];refine ⟨fun e he=>by simp at he,?_⟩;refine Goes.step rfl (fun i b=>?_);obtain ⟨f,a⟩:=b;subst a
 try simp only [bJ]
 refine bt (fun K c=>?_)
 go_simp
 refine c _ _ ⟨fun e he=>?_,?_⟩
 .have hm:=mem_listed he;simp [go_sem, *] at hm
  try (subst hm;exact evL_cell _ _ (fun h=>h) (by simp<;>omega))
 clear c K;refine Goes.step rfl (fun i b=>?_);obtain ⟨f,a⟩:=b;subst a
 try simp only [alloc_at,bJ]
 refine bt (fun K c=>?_)
 go_simp
 refine c _ _ ⟨fun e he=>?_,?_⟩
 .have hm:=mem_listed he;simp [go_sem, *] at hm
  try (subst hm;exact evL_cell _ _ (fun h=>h) (by simp<;>omega))
 clear c K;refine Goes.step rfl (fun i b=>?_);obtain ⟨f,a⟩:=b;subst a
 try simp only [alloc_at,bJ]
 rw [stepG_region_end];simp only [goes_go];refine ⟨fun e he=>by simp at he,?_⟩;refine Goes.step rfl (fun i b=>?_);obtain ⟨f,a⟩:=b;subst a
 try simp only [bJ]
 rw [stepG_seq];simp only [goes_go];refine ⟨fun e he=>by simp at he,?_⟩;refine Goes.step rfl (fun i b=>?_);obtain ⟨f,a⟩:=b;subst a
 try simp only [bJ]
 rw [stepG_region];simp only [goes_go,lZ,lC,lN,zA,List.range,List.range.loop];refine ⟨fun e he=>by simp at he,?_⟩;refine Goes.step rfl (fun i b=>?_);obtain ⟨f,a⟩:=b;subst a
 try simp only [bJ]
 refine bt (fun K c=>?_)
 go_simp
 refine c _ _ ⟨fun e he=>?_,?_⟩
 .have hm:=mem_listed he;simp [go_sem, *] at hm
  try (subst hm;exact evL_cell _ _ (fun h=>h) (by simp<;>omega))
 clear c K;refine Goes.step rfl (fun i b=>?_);obtain ⟨f,a⟩:=b;subst a
 try simp only [alloc_at,bJ]
 rw [stepG_region_end];simp only [goes_go];refine ⟨fun e he=>by simp at he,?_⟩;refine Goes.step rfl (fun i b=>?_);obtain ⟨f,a⟩:=b;subst a
 try simp only [bJ]
 rw [stepG_seq];simp only [goes_go];refine ⟨fun e he=>by simp at he,?_⟩;refine Goes.step rfl (fun i b=>?_);obtain ⟨f,a⟩:=b;subst a
 try simp only [bJ]
 rw [stepG_region];simp only [goes_go,lZ,lC,lN,Nat.reduceAdd,zA,List.range,List.range.loop];refine ⟨fun e he=>by simp at he,?_⟩;refine Goes.step rfl (fun i b=>?_);obtain ⟨f,a⟩:=b;subst a
 try simp only [bJ]
 refine bt (fun K c=>?_)
 go_simp
 refine c _ _ ⟨fun e he=>?_,?_⟩
 .have hm:=mem_listed he;simp [go_sem, *] at hm
  try (subst hm;exact evL_cell _ _ (fun h=>h) (by simp<;>omega))
 clear c K;refine Goes.step rfl (fun i b=>?_);obtain ⟨f,a⟩:=b;subst a
 try simp only [bJ]
 refine bt (fun K c=>?_)
 go_simp
 refine c _ _ ⟨fun e he=>?_,?_⟩
 .have hm:=mem_listed he;simp [go_sem, *] at hm
  try (subst hm;exact evL_cell _ _ (fun h=>h) (by simp<;>omega))
 clear c K;refine Goes.step rfl (fun i b=>?_);obtain ⟨f,a⟩:=b;subst a
 try simp only [bJ]
 refine bt (fun K c=>?_)
 go_simp
 refine c _ _ ⟨fun e he=>?_,?_⟩
 .have hm:=mem_listed he;simp [go_sem, *] at hm
  try (subst hm;exact evL_cell _ _ (fun h=>h) (by simp<;>omega))
 clear c K;refine Goes.step rfl (fun i b=>?_);obtain ⟨f,a⟩:=b;subst a
 try simp only [bJ]
 refine bt (fun K c=>?_)
 go_simp
 refine c _ _ ⟨fun e he=>?_,?_⟩
 .have hm:=mem_listed he;simp [go_sem, *] at hm
  try (subst hm;exact evL_cell _ _ (fun h=>h) (by simp<;>omega))
 clear c K;refine Goes.step rfl (fun i b=>?_);obtain ⟨f,a⟩:=b;subst a
 try simp only [bJ]
 refine bt (fun K c=>?_)
 go_simp
 refine c _ _ ⟨fun e he=>?_,?_⟩
 .have hm:=mem_listed he;simp [go_sem, *] at hm
  try (subst hm;exact evL_cell _ _ (fun h=>h) (by simp<;>omega))
 clear c K;refine Goes.step rfl (fun i b=>?_);obtain ⟨f,a⟩:=b;subst a
 try simp only [bJ]
 rw [stepG_region_end];simp only [goes_go];refine ⟨fun e he=>by simp at he,?_⟩;refine Goes.step rfl (fun i b=>?_);obtain ⟨f,a⟩:=b;subst a
 try simp only [bJ]
 rw [stepG_seq];simp only [goes_go];refine ⟨fun e he=>by simp at he,?_⟩;refine Goes.step rfl (fun i b=>?_);obtain ⟨f,a⟩:=b;subst a
 try simp only [bJ]
 rw [stepG_region];simp only [goes_go,lZ,lC,lN,zA,List.range,List.range.loop];refine ⟨fun e he=>by simp at he,?_⟩;refine Goes.step rfl (fun i b=>?_);obtain ⟨f,a⟩:=b;subst a
 try simp only [bJ]
 refine bt (fun K c=>?_)
 go_simp
 refine c _ _ ⟨fun e he=>?_,?_⟩
 .have hm:=mem_listed he;simp [go_sem, *] at hm
  try (subst hm;exact evL_cell _ _ (fun h=>h) (by simp<;>omega))
 clear c K;refine Goes.step rfl (fun i b=>?_);obtain ⟨f,a⟩:=b;subst a
 try simp only [bJ]
 rw [stepG_region_end];simp only [goes_go];refine ⟨fun e he=>by simp at he,?_⟩;refine Goes.step rfl (fun i b=>?_);obtain ⟨f,a⟩:=b;subst a
 try simp only [bJ]
 rw [stepG_seq];simp only [goes_go];refine ⟨fun e he=>by simp at he,?_⟩;refine Goes.step rfl (fun i b=>?_);obtain ⟨f,a⟩:=b;subst a
 try simp only [bJ]
 rw [stepG_seq];simp only [goes_go];refine ⟨fun e he=>by simp at he,?_⟩;refine Goes.step rfl (fun i b=>?_);obtain ⟨f,a⟩:=b;subst a
 try simp only [bJ]
 rw [stepG_region];simp only [goes_go,lZ,lC,lN,Nat.reduceAdd,zA,List.range,List.range.loop];refine ⟨fun e he=>by simp at he,?_⟩;refine Goes.step rfl (fun i b=>?_);obtain ⟨f,a⟩:=b;subst a
 try simp only [bJ]
 refine bt (fun K c=>?_)
 go_simp
 refine c _ _ ⟨fun e he=>?_,?_⟩
 .have hm:=mem_listed he;simp [go_sem, *] at hm
  try (subst hm;exact evL_cell _ _ (fun h=>h) (by simp<;>omega))
 clear c K;refine Goes.step rfl (fun i b=>?_);obtain ⟨f,a⟩:=b;subst a
 try simp only [bJ]
 refine bt (fun K c=>?_)
 go_simp
 refine c _ _ ⟨fun e he=>?_,?_⟩
 .have hm:=mem_listed he;simp [go_sem, *] at hm;rcases hm with rfl|rfl|rfl|rfl<;>exact evL_cell _ _ (fun h=>h) (by simp<;>omega)
 clear c K;refine Goes.step rfl (fun i b=>?_);obtain ⟨f,a⟩:=b;subst a
 try simp only [bJ]
 refine bt (fun K c=>?_)
 go_simp
 refine c _ _ ⟨fun e he=>?_,?_⟩
 .have hm:=mem_listed he;simp [go_sem, *] at hm
  try (subst hm;exact evL_cell _ _ (fun h=>h) (by simp<;>omega))
 clear c K;refine Goes.step rfl (fun i b=>?_);obtain ⟨f,a⟩:=b;subst a
 try simp only [bJ]
 refine bt (fun K c=>?_)
 go_simp
 refine c _ _ ⟨fun e he=>?_,?_⟩
 .have hm:=mem_listed he;simp [go_sem, *] at hm
  try (subst hm;exact evL_cell _ _ (fun h=>h) (by simp<;>omega))
 clear c K;refine Goes.step rfl (fun i b=>?_);obtain ⟨f,a⟩:=b;subst a
 try simp only [bJ]
 refine goes_call rfl rfl (by decide) rfl func97 rfl rfl ⟨fun e he=>by simp at he,?_⟩
 walk_nrmf Tryz.f97
 refine Goes.stop (fun i b=>?_);obtain ⟨f,a⟩:=b;subst a;have:=j f;rw [enter_at _ func97 rfl] at this;exact this
structure Boxes (w:Wj)(bo bq bs c:Nat)(root:Option Wu)(vs:Bool)(p d af:ByteArray):Prop where
 out:w.cell? ⟨bo,0,none⟩=some (.chan (some c))
 q0:w.cell? ⟨bq,0,none⟩=some (.bool vs)
 q1:w.cell? ⟨bq,1,none⟩=some (.string p)
 q2:w.cell? ⟨bq,2,none⟩=some (.string d)
 q3:w.cell? ⟨bq,3,none⟩=some (.string af)
 st:w.cell? ⟨bs,0,none⟩=some (.pointer root)
noncomputable def lx:Array Oper:=qG (dr (cF Tryz.f119))
def pQ (c:Nat)(d:Deferred):Prop:=∃at_ t k,d={target:=.builtin .close at_ t k,args:=#[.chan (some c)]}
theorem Cv {P:Wv}{ops:Array Oper}{a:Act}{w w':Wj}{i:Nat}{rest:List Nat}{o:Oper}{df:Deferred}{b:Wy}{k:List Item}{cs:List Wy}(ho:ops[i]?=some o)(hw:Region.wanted o (yielded ops a.tmps)=true)(hr:(execOp a.eval o).run P w=.ok (.defer df) w'):
  step P (lone (b.at a (.inRegion ops (i::rest)::k)) cs w)=.next (lone (b.at ({a with defers:=df::a.defers}.put o.dst Wo) (.inRegion ops rest::k)) cs w'):=by
 have hg:=stepG_op (P:=P) (b:=b) (k:=k) (cs:=cs) (w:=w) (rest:=rest) ho hw;have e:({b.at a (.inRegion ops (i::rest)::k) with defers:=df::a.defers}:Wy).finish Wo=b.at ({a with defers:=df::a.defers}.put o.dst Wo) (.inRegion ops rest::k):=by
  have:=Frame.finish_at b {a with defers:=df::a.defers} ops i rest k Wo;rw [ho] at this;exact this
 refine step_lone_go ?_;rw [hg];simp only [stepG.apply,Sem.runT_eq,hr,GStep.bare_after];exact congrArg (fun fr=>GStep.go {frame:=fr,callers:=cs,status:=.running,dying:=none} w') e
theorem EM {bo k bs c:Nat}{root:Option Wu}{i:Bool}{p d j:ByteArray}{w:Wj}(hb:Boxes w bo k bs c root i p d j)(cs:List Wy):
  ∃a df,Steps Yq.prog (lone (Frame.enter Yq.prog 119 #[ptr bo,ptr k,ptr bs] .normal) cs w) (lone ((base 119).at ⟨a,[df]⟩ [.inRegion lx [3]]) cs w)/\pQ c df/\Act.eval ⟨a,[df]⟩ (.tmp 4)=qV i p d j/\Act.eval ⟨a,[df]⟩ (.tmp 5)=sV root/\Act.eval ⟨a,[df]⟩ (.tmp 6)=.chan (some c):=by
 obtain ⟨ho,h0,h1,h2,h3,h4⟩:=hb;have h:LoneTo Yq.prog (fun g' w'=>∃a df,(g'=G ((base 119).at ⟨a,[df]⟩ [.inRegion lx [3]]) cs/\w'=w)/\pQ c df/\Act.eval ⟨a,[df]⟩ (.tmp 4)=qV i p d j/\Act.eval ⟨a,[df]⟩ (.tmp 5)=sV root/\Act.eval ⟨a,[df]⟩ (.tmp 6)=.chan (some c)) (G (Frame.enter Yq.prog 119 #[ptr bo,ptr k,ptr bs] .normal) cs) w:=by
  refine LoneTo.goes (n:=20) ?_;unfold ptr;rw [enter_at _ (Yq.nq func119) rfl]
  walk_nrmf Tryz.f119
  refine Goes.step rfl (fun f b=>?_);subst b;rw [stepG_seq];simp only [goes_go];refine ⟨trivial,?_⟩;refine Goes.step rfl (fun f b=>?_);subst b;rw [stepG_region];simp only [goes_go,lZ,lC,lN,Nat.reduceAdd,zA,List.range,List.range.loop];refine ⟨trivial,?_⟩;refine Goes.step rfl (fun f b=>?_);subst b;refine bt (fun K e=>?_)
  go_simp
  refine e _ _ ⟨trivial,?_⟩;clear e K;refine Goes.stop (fun f b=>?_);subst b;refine LoneTo.step (Cv (w':=w) (df:={target:=.builtin .close #[193] 0 #[false],args:=#[.chan (some c)]}) rfl rfl (by simp [go_sem,Act.eval])) ?_;show LoneTo Yq.prog _ (G _ cs) w;refine LoneTo.goes (n:=20) ?_
  walk_nrm
  refine Goes.step rfl (fun f b=>?_);subst b;rw [stepG_region_end];simp only [goes_go];refine ⟨trivial,?_⟩;refine Goes.step rfl (fun f b=>?_);subst b;rw [stepG_region];simp only [goes_go,lZ,lC,lN,Nat.reduceAdd,zA,List.range,List.range.loop];refine ⟨trivial,?_⟩;refine Goes.step rfl (fun f b=>?_);subst b;refine bt (fun K e=>?_)
  go_simp
  refine e _ _ ⟨trivial,?_⟩;clear e K;refine Goes.step rfl (fun f b=>?_);subst b;refine bt (fun K e=>?_)
  go_simp
  refine e _ _ ⟨trivial,?_⟩;clear e K;refine Goes.step rfl (fun f b=>?_);subst b;refine bt (fun K e=>?_)
  go_simp
  refine e _ _ ⟨trivial,?_⟩;clear e K;refine Goes.stop (fun f b=>?_);subst b;exact LoneTo.done ⟨_,_,⟨rfl,rfl⟩,⟨_,_,_,rfl⟩,rfl,rfl,rfl⟩
 obtain ⟨g',w',hs,a,df,⟨rfl,rfl⟩,hr⟩:=h;exact ⟨a,df,hs,hr⟩
theorem rv {bo bq bs c:Nat}{root:Option Wu}{vs:Bool}{p d af:ByteArray}{w:Wj}(hb:Boxes w bo bq bs c root vs p d af){Q:Wj->Prop}
  (hsend:Calls Yq.prog 120 #[qV vs p d af,sV root,.chan (some c)] w fun e w'=>e=.returned (.tuple #[])/\Q w') (cs:List Wy):
  ∃fr w' df,Steps Yq.prog (lone (Frame.enter Yq.prog 119 #[ptr bo,ptr bq,ptr bs] .normal) cs w) (lone fr cs w')/\fr.fn=119/\fr.mode=.returning/\fr.defers=[df]/\pQ c df/\fr.kind=.normal/\fr.roundOf=none/\Q w':=by
 obtain ⟨a,df,hs,hc,h4,h5,h6⟩:=EM hb cs;obtain ⟨e,w',fr,⟨rfl,hQ⟩,hcome,-,hlv⟩:=hsend ((base 119).at ⟨a,[df]⟩ [.inRegion lx [3]]::cs)
 have ho : lx[3]? = some { dst := some 7, op := .call { callee := .value (.func 120), args := #[.tmp 4, .tmp 5, .tmp 6], argTypes := #[93, 56, 210] }, type := 0, pos := "items.go:24", after := #[{ on := 0, ground := .data }, { on := 1, ground := .data }, { on := 2, ground := .data }], guard := none } := rfl
 have hen:step Yq.prog (lone ((base 119).at ⟨a,[df]⟩ [.inRegion lx [3]]) cs w)=.next (lone (Frame.enter Yq.prog 120 #[qV vs p d af,sV root,.chan (some c)] .normal) ((base 119).at ⟨a,[df]⟩ [.inRegion lx [3]]::cs) w):=by
  refine pP ho rfl ?_
  have e := run_call_body (P := Yq.prog) (a := ⟨a, [df]⟩) (w := w) (o := { dst := some 7, op := .call { callee := .value (.func 120), args := #[.tmp 4, .tmp 5, .tmp 6], argTypes := #[93, 56, 210] }, type := 0, pos := "items.go:24", after := #[{ on := 0, ground := .data }, { on := 1, ground := .data }, { on := 2, ground := .data }], guard := none }) rfl (Yq.nq func120) rfl rfl
  have e2:(#[.tmp 4,.tmp 5,.tmp 6]:Array Operand).map (Act.eval ⟨a,[df]⟩)=#[qV vs p d af,sV root,.chan (some c)]:=by
   simp only [List.map_toArray,List.map_cons,List.map_nil,h4,h5,h6]
  rw [e2] at e;exact e
 have hend:Steps Yq.prog (lone (((base 119).at ⟨a,[df]⟩ [.inRegion lx [3]]).finish (.tuple #[])) cs w') (lone {(base 119).at (Act.put ⟨a,[df]⟩ ((lx[3]?).bind (·.dst)) (.tuple #[])) [] with mode:=.returning} cs w'):=by
  rw [Frame.finish_at];exact .head step_region_end (.one step_end)
 exact ⟨_,w',df,Steps.trans hs (.head hen (Steps.trans hcome (.head (step_leave_returned hlv) hend))),rfl,rfl,rfl,hc,rfl,rfl,hQ⟩
theorem xA {P:Wv}{fr:Wy}{cs:List Wy}{w:Wj}{c n s q:Nat}{b:Array Wx}{tm:Bool}{df:Deferred}(hm:fr.mode=.returning)(hd:fr.defers=[df])(hc:pQ c df)(hrow:w.heap[c]?=some (.chan n b false s q tm)):
  step P (lone fr cs w)=.next (lone {fr with defers:=[]} cs (d8 w c n b s q tm)):=by
 obtain ⟨at_,t,k,rfl⟩:=hc;have h:stepG P true (G fr cs) w=.go (G {fr with defers:=[]} cs) (d8 w c n b s q tm) (seen P fr.fn #[⟨.obj c,false,true⟩,⟨.obj c,true,true⟩]):=by
  simp only [stepG,G,hm,unwind,hd];unfold callDeferred;simp only [rp at_ t k hrow];simp [GStep.after]
 exact step_solo_go (a:=G fr cs) rfl h
theorem xB {fr:Wy}{w:Wj}(hf:fr.fn=119)(hm:fr.mode=.returning)(hd:fr.defers=[])(hk:fr.kind=.normal):fr.leaving Yq.prog w (.returned (.tuple #[])):=by
 refine ⟨hm,hd,hk,Tryz.f119,by rw [hf];exact (Yq.nq func119),?_⟩;unfold results;rw [show Tryz.f119.results=#[] from rfl,Array.mapM_eq_mapM_toList];rfl
theorem rx {n0:Nat}{root root0:Option Wu}{vs:Bool}{p d af:ByteArray}{w:Wj}(hb:Boxes w (n0+3) n0 (n0+1) (n0+2) root vs p d af){Q:Wj->Prop}{L:Array Wx}{m s q:Nat}
  (hsend:Calls Yq.prog 120 #[qV vs p d af,sV root,.chan (some (n0+2))] w fun e w'=>e=.returned (.tuple #[])/\Q w'/\w'.heap[n0+2]?=some (.chan m L false s q false)) (cs:List Wy):
  ∃w',Q w'/\w'.heap[n0+2]?=some (.chan m L false s q false)/\Steps Yq.prog (lone (Frame.enter Yq.prog 119 #[ptr (n0+3),ptr n0,ptr (n0+1)] .normal) (ew n0 root0 vs p d af (dZ n0) [1,2]::cs) w) (lone (ew n0 root0 vs p d af Wo []) cs (d8 w' (n0+2) m L s q false)):=by
 obtain ⟨fr,w',df,hs,hf,hm,hd,hc,hk,hr,hQ,hrow⟩:=rv hb hsend (ew n0 root0 vs p d af (dZ n0) [1,2]::cs);refine ⟨w',hQ,hrow,Steps.trans hs (.head (xA hm hd hc hrow) (.head (step_leave_returned (xB (fr:={fr with defers:=[]}) hf hm rfl hk)) ?_))⟩;have e:(ew n0 root0 vs p d af (dZ n0) [1,2]).finish (.tuple #[])=ew n0 root0 vs p d af (dZ n0) [2]:=by
  unfold ew;rw [Frame.finish_at];rfl
 rw [e];unfold ew
 have := uj (P := Yq.prog) (ops := Yq.itemsOps2) (a := ⟨eZ n0 root0 vs p d af (dZ n0), []⟩) (i := 2) (rest := []) (b := base 97) (k := [.code iU]) (cs := cs) (w := d8 w' (n0 + 2) m L s q false) (w' := d8 w' (n0 + 2) m L s q false) (v := Wo) (o := { dst := some 7, op := .move (.const Wo), type := 0, pos := "", after := #[], guard := none }) rfl rfl (by simp [go_sem, Act.eval])
 exact .one this
def cIn:Code->Code
 | .block _ b=>b
 | .loop b=>b
 |c=>c
noncomputable def cG:Code:=cIn (cIn (dr (jc bP)))
noncomputable def eB:Array Oper:=qG (jc cG)
noncomputable def EN:List Item:=[.code (dr cG),.inLoop cG,.inBlock 0,.code (dr bP)]
noncomputable def jJ (a:Act)(r:List Nat):Wy:=(base 69).at a (.inRegion eB r::EN)
def EO (n:Nat)(l:Lst)(a:Int)(c:Nat):Array Wx:=
 #[lV l,.int .i64 a,ptr n,Wo,ptr (n+1),ptr (n+2),.int .i64 (IntKind.i64.wrap (a * l.size)),.int .i64 0,Wo,.int .i64 a,.pointer (some ⟨n,6,none⟩),.int .i64 l.size,.int .i64 (IntKind.i64.wrap (a * l.size)),.pointer (some ⟨n,2,none⟩),qV l.vs l.p l.d l.af,.pointer (some ⟨n,1,none⟩),sV l.root,.chan (some c),Wo,Wo,Wo,Wo,Wo,Wo,Wo,Wo,Wo,Wo,Wo,Wo,Wo,Wo,Wo,Wo,Wo,Wo,Wo,Wo,Wo,Wo,Wo,Wo,Wo,Wo,Wo,Wo,Wo,Wo,Wo]
noncomputable def pF (n:Nat)(l:Lst)(a:Int):Wy:=(base 69).at ⟨jI n l a,[]⟩ (.inRegion rq [4]::lw)
noncomputable def pF2 (n:Nat)(l:Lst)(a:Int)(c:Nat):Wy:=(base 69).at ⟨EO n l a c,[]⟩ (.inRegion rq []::lw)
theorem zM (n c:Nat)(l:Lst)(f:Int)(cs:List Wy)(w:Wj)(root0:Option Wu)(hout:w.cell? ⟨c+3,0,none⟩=some (.chan (some (c+2)))):
  Steps Yq.prog (lone (ew c root0 l.vs l.p l.d l.af Wo []) (pF n l f::cs) w) (lone (pF2 n l f (c+2)) cs w):=by
 have h:LoneTo Yq.prog (fun g' w'=>g'=G (pF2 n l f (c+2)) cs/\w'=w) (G (ew c root0 l.vs l.p l.d l.af Wo []) (pF n l f::cs)) w:=by
  obtain ⟨num,root,vs,p,d,af,size,left⟩:=l;refine LoneTo.goes (n:=30) ?_;unfold pF ew eZ jI lw qV sV ptr lV bN;dsimp only [iU,cF,Tryz.f97,rq,bP,Tryz.f69,jc,dr,qG,Option.getD];refine Goes.step rfl (fun b a=>?_);subst a;rw [stepG_region_end];simp only [goes_go];refine ⟨trivial,?_⟩;refine Goes.step rfl (fun b a=>?_);subst a;rw [stepG_seq];simp only [goes_go];refine ⟨trivial,?_⟩;refine Goes.step rfl (fun b a=>?_);subst a;rw [stepG_region];simp only [goes_go,lZ,lC,lN,Nat.reduceAdd,zA,List.range,List.range.loop];refine ⟨trivial,?_⟩;refine Goes.step rfl (fun b a=>?_);subst a;refine bt (fun K e=>?_)
  go_simp
  refine e _ _ ⟨trivial,?_⟩;clear e K;refine Goes.step rfl (fun b a=>?_);subst a;refine bt (fun K e=>?_)
  go_simp
  refine e _ _ ⟨trivial,?_⟩;clear e K;refine Goes.step rfl (fun b a=>?_);subst a;rw [stepG_region_end];simp only [goes_go];refine ⟨trivial,?_⟩;refine Goes.step rfl (fun b a=>?_);subst a;rw [stepG_ret'];simp only [goes_go];refine ⟨trivial,?_⟩;refine Goes.step rfl (fun b a=>?_);subst a;refine goes_leave1 rfl rfl Yq.func97 rfl ⟨trivial,?_⟩
  walk_nrm
  refine Goes.stop (fun b a=>?_);subst a;exact LoneTo.done ⟨rfl,rfl⟩
 obtain ⟨g',w',hs,rfl,rfl⟩:=h;exact hs
theorem uk (n c:Nat)(l:Lst)(i:Int)(cs:List Wy)(w:Wj)(root0:Option Wu)(hout:w.cell? ⟨c+3,0,none⟩=some (.chan (some (c+2)))):
  Alone Tryz.prog (c+3) (G (pF2 n l i (c+2)) cs) 12 (G ((base 97).at ⟨eZ c root0 l.vs l.p l.d l.af (dZ c),[]⟩ [.inRegion ui [],.code iU]) (pF n l i::cs)) w:=by
 obtain ⟨num,root,vs,p,d,af,size,left⟩:=l;unfold Alone pF eZ jI lw qV sV ptr lV bN;dsimp only [ui,iU,cF,Tryz.f97,rq,bP,Tryz.f69,jc,dr,qG,Option.getD];refine Goes.step rfl (fun f b=>?_);replace hout:=(cB (a:=⟨c+3,0,none⟩) b).trans hout;clear b;rw [stepG_region_end];simp only [goes_go];refine ⟨⟨by trivial,fun e he=>by simp at he⟩,?_⟩;refine Goes.step rfl (fun f b=>?_);replace hout:=(cB (a:=⟨c+3,0,none⟩) b).trans hout;clear b;rw [stepG_seq];simp only [goes_go];refine ⟨⟨by trivial,fun e he=>by simp at he⟩,?_⟩;refine Goes.step rfl (fun f b=>?_);replace hout:=(cB (a:=⟨c+3,0,none⟩) b).trans hout;clear b;rw [stepG_region];simp only [goes_go,lZ,lC,lN,Nat.reduceAdd,zA,List.range,List.range.loop];refine ⟨⟨by trivial,fun e he=>by simp at he⟩,?_⟩;refine Goes.step rfl (fun f b=>?_);replace hout:=(cB (a:=⟨c+3,0,none⟩) b).trans hout;clear b;refine bt (fun K h=>?_)
 go_simp
 refine h _ _ ⟨⟨rfl,fun e he=>?_⟩,?_⟩
 .have hm:=mem_listed he;simp [go_sem, *] at hm
  try (subst hm;exact ⟨_,rfl,rfl⟩)
 clear h K;refine Goes.step rfl (fun f b=>?_);replace hout:=(cB (a:=⟨c+3,0,none⟩) b).trans hout;clear b;refine bt (fun K h=>?_)
 go_simp
 refine h _ _ ⟨⟨rfl,fun e he=>?_⟩,?_⟩
 .have hm:=mem_listed he;simp [go_sem, *] at hm
  try (subst hm;exact ⟨_,rfl,rfl⟩)
 clear h K;refine Goes.step rfl (fun f b=>?_);replace hout:=(cB (a:=⟨c+3,0,none⟩) b).trans hout;clear b;rw [stepG_region_end];simp only [goes_go];refine ⟨⟨by trivial,fun e he=>by simp at he⟩,?_⟩;refine Goes.step rfl (fun f b=>?_);replace hout:=(cB (a:=⟨c+3,0,none⟩) b).trans hout;clear b;rw [stepG_ret'];simp only [goes_go];refine ⟨⟨by trivial,fun e he=>by simp at he⟩,?_⟩;refine Goes.step rfl (fun f b=>?_);replace hout:=(cB (a:=⟨c+3,0,none⟩) b).trans hout;clear b;refine goes_leave1 rfl rfl func97 rfl ⟨⟨by trivial,fun e he=>by simp at he⟩,?_⟩
 walk_nrm
 exact Goes.stop (fun f b=>rfl)
end
