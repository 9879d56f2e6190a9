/- Part of a proof. -/
import Derived.Test.YtnapepbdohidgaaGreatDoorQM16
namespace Go.Proofs.YtnapepbdohidgaaGreatDoorQ
open Go
open Go.Conc Go.ConcX Go.ConcX.Gen Go.RowKit
inductive RVl (ρ : Ren) : List Value→List Value→Prop
  | nil : RVl ρ [] []
  | cons {v v' : Value} {l l' : List Value} (h : RV ρ v v') (hl : RVl ρ l l') : RVl ρ (v :: l) (v' :: l')
theorem RVl.len {ρ : Ren} {l l' : List Value} (h : RVl ρ l l') : l.length=l'.length:=by
  induction h with
  | nil=>rfl
  | cons _ _ ih=>simp [ih]
theorem RVl.at_ {ρ : Ren} {l l' : List Value} (h : RVl ρ l l') : ∀ (i : Nat) v v',l[i]?=some v→l'[i]?=some v'→RV ρ v v':=by
  induction h with
  | nil=>intro i v v' h; simp at h
  | cons h _ ih=>
    intro i v v' h1 h2
    cases i with
    | zero=>simp at h1 h2; subst h1; subst h2; exact h
    | succ i=>exact ih i v v' (by simpa using h1) (by simpa using h2)
theorem RVl.arr {ρ : Ren} {l l' : List Value} (h : RVl ρ l l') : RVs ρ l.toArray l'.toArray:=⟨by simp [h.len],fun i v v' h1 h2=>h.at_ i v v' (by simpa using h1) (by simpa using h2)⟩
theorem RVl.agg {ρ : Ren} {l l' : List Value} (h : RVl ρ l l') : RV ρ (.agg l.toArray) (.agg l'.toArray):=.agg h.arr.size h.arr.at_
section
variable {σ : Ren} {l : Lst} {r' : Option Addr}
theorem lCells_rel (h : RAo σ l.root r') : RVs σ (lCells l) (lCells { l with root:=r' }):=
  RVl.arr (.cons (.int _ _) (.cons (.pointer h) (.cons (.bool _) (.cons (.string _) (.cons (.string _) (.cons (.string _) (.cons (.int _ _) (.cons (.int _ _) .nil))))))))
theorem lV_rel (h : RAo σ l.root r') : RV σ (lV l) (lV { l with root:=r' }):=.agg (lCells_rel h).size (lCells_rel h).at_
theorem qV_rel (vs : Bool) (p d af : ByteArray) : RV σ (qV vs p d af) (qV vs p d af):=RVl.agg (.cons (.bool _) (.cons (.string _) (.cons (.string _) (.cons (.string _) .nil))))
theorem sV_rel {r : Option Addr} (h : RAo σ r r') : RV σ (sV r) (sV r'):=RVl.agg (.cons (.pointer h) .nil)
end
theorem lV_inv {ρ : Ren} {l : Lst} {v : Value} (h : RV ρ (lV l) v) : ∃ r',RAo ρ l.root r'∧v=lV { l with root:=r' }:=by
  unfold lV at h
  cases h with
  | @agg _ c' hc hx=>
    have hsz : c'.size=8:=by rw [←hc]; rfl
    obtain ⟨cl⟩:=c'
    have hlen : cl.length=8:=by simpa using hsz
    rcases cl with - | ⟨x0,- | ⟨x1,- | ⟨x2,- | ⟨x3,- | ⟨x4,- | ⟨x5,- | ⟨x6,- | ⟨x7,- | ⟨x8,cl⟩⟩⟩⟩⟩⟩⟩⟩⟩ <;> simp at hlen
    have h0:=hx 0 _ x0 rfl rfl
    have h1:=hx 1 _ x1 rfl rfl
    have h2:=hx 2 _ x2 rfl rfl
    have h3:=hx 3 _ x3 rfl rfl
    have h4:=hx 4 _ x4 rfl rfl
    have h5:=hx 5 _ x5 rfl rfl
    have h6:=hx 6 _ x6 rfl rfl
    have h7:=hx 7 _ x7 rfl rfl
    cases h0; cases h2; cases h3; cases h4; cases h5; cases h6; cases h7
    cases h1 with
    | pointer h=>exact ⟨_,h,rfl⟩
theorem args_inv {ρ : Ren} {l : Lst} {pn : Int} {a' : Array Value} (h : RVs ρ #[lV l,.int .i64 pn] a') : ∃ r',RAo ρ l.root r'∧a'=#[lV { l with root:=r' },.int .i64 pn]:=by
  obtain ⟨al⟩:=a'
  have hsz:=h.size
  rcases al with - | ⟨x0,- | ⟨x1,- | ⟨x2,al⟩⟩⟩ <;> simp at hsz
  have h0:=h.at_ 0 _ x0 rfl rfl
  have h1:=h.at_ 1 _ x1 rfl rfl
  cases h1
  obtain ⟨r',k1,rfl⟩:=lV_inv h0
  exact ⟨r',k1,rfl⟩
section
variable {ρ : Ren} {V W V' : World} {l : Lst} {r' : Option Addr} {I : Nat→Prop} {ch : Nat→Prop}
theorem call_sim (S : SimW ρ V W) (hS : ρ.F bigS=false) (hr : RAo ρ l.root r') (hI : ∀ i,I i→i < 7) (hI5 : I 5) (hV : ∀ a b,ρ a b→V'.heap[a]?=V.heap[a]?) (hV7 : ∀ i,i < 7→i≠5→V'.heap[V.heap.size+i]?=(callW V l 1000).heap[V.heap.size+i]?) (hV5 : ∃ k b cl s q,V'.heap[V.heap.size+5]?=some (.chan k b cl s q false)) (hos : V'.os=V.os) (hch : ∀ c,ch c→∃ o,V'.heap[c]?=some o∧o.isChan=true) (dd : Nat) :
    SimW (ρ.plus V.heap.size W.heap.size I (fun _ _ h=>S.lt h) ch hS) V' ((callW W { l with root:=r' } 20).at dd):=by
  refine plus_sim S hV (fun b hb=>callW_old W _ 20 hb) (by rw [hos]; exact S.os) (fun i hi=>?_) hch
  have h7:=hI i hi
  have eW : ((callW W { l with root:=r' } 20).at dd).heap[W.heap.size+i]?=_:=callW_row W { l with root:=r' } 20 i h7
  by_cases h5 : i=5
  · subst h5
    obtain ⟨k,b,cl,s,q,hk⟩:=hV5
    exact ⟨_,_,hk,eW,.chan _ _ _ _ _ _ _ _ _ (.inl rfl) (.inl rfl)⟩
  · have eV:=(hV7 i h7 h5).trans (callW_row V l 1000 i h7)
    have hr2 : RAo (ρ.plus V.heap.size W.heap.size I (fun _ _ h=>S.lt h) ch hS) l.root r':=RAo.re plus_sub hr
    rcases i with - | - | - | - | - | - | - | i
    · exact ⟨_,_,eV,eW,.cells 125 (.inl rfl) (lCells_rel hr2)⟩
    · exact ⟨_,_,eV,eW,.cells 88 (.inl rfl) (RVl.arr (.cons (.slice _ _ .none) (.cons (.string _) .nil)))⟩
    · exact ⟨_,_,eV,eW,.cells 88 (.inl rfl) (RVl.arr (.cons (.slice _ _ .none) (.cons (.string _) .nil)))⟩
    · exact ⟨_,_,eV,eW,.cells 93 (.inl rfl) (RVl.arr (.cons (.bool _) (.cons (.string _) (.cons (.string _) (.cons (.string _) .nil)))))⟩
    · exact ⟨_,_,eV,eW,.cells 56 (.inl rfl) (RVl.arr (.cons (.pointer hr2) .nil))⟩
    · exact absurd rfl h5
    · exact ⟨_,_,eV,eW,.cells 193 (.inl rfl) (RVl.arr (.cons (.chan (.some (plus_new hI5))) .nil))⟩
    · omega
end
section
variable {P : Program} {σ : Ren} {l : Lst} {r' : Option Addr} {n m c c' : Nat} {pn : Int}
theorem pF2_rel (h0 : σ n m) (h1 : σ (n+1) (m+1)) (h2 : σ (n+2) (m+2)) (hc : σ c c') (hr : RAo σ l.root r') (ho : okCode P σ.F (cSnd (cFst pgCall))=true∧okCode P σ.F (cSnd pgCall)=true) : RFr P σ (pF2 n l pn c) (pF2 m { l with root:=r' } pn c'):=by
  refine ⟨rfl,?_,.cons (.regionEnd _ _) (.cons (.code ho.1) (.cons (.code ho.2) .nil)),.nil,.run,⟨rfl,rfl,by simp [pF2,Frame.at,base]⟩,.none⟩
  have p : ∀ {a b : Nat} (j : Nat),σ a b→RV σ (.pointer (some ⟨a,j,none⟩)) (.pointer (some ⟨b,j,none⟩)):=fun j h=>.pointer (.some ⟨h,rfl,rfl⟩)
  have u : RV σ undef undef:=rv_undef
  exact RVl.arr (.cons (lV_rel hr) (.cons (.int _ _) (.cons (p 0 h0) (.cons u (.cons (p 0 h1) (.cons (p 0 h2) (.cons (.int _ _) (.cons (.int _ _) (.cons u (.cons (.int _ _) (.cons (p 6 h0) (.cons (.int _ _) (.cons (.int _ _) (.cons (p 2 h0) (.cons (qV_rel _ _ _ _) (.cons (p 1 h0) (.cons (sV_rel hr) (.cons (.chan (.some hc)) (.cons u (.cons u (.cons u (.cons u (.cons u (.cons u (.cons u (.cons u (.cons u (.cons u (.cons u (.cons u (.cons u (.cons u (.cons u (.cons u (.cons u (.cons u (.cons u (.cons u (.cons u (.cons u (.cons u (.cons u (.cons u (.cons u (.cons u (.cons u (.cons u (.cons u (.cons u .nil)))))))))))))))))))))))))))))))))))))))))))))))))
theorem snd_rel {Q : Program} (k : CallKind) (hk : (k == .early)=false∧k≠.report) {x0 x1 x2 y0 y1 y2 : Nat} (h0 : σ x0 y0) (h1 : σ x1 y1) (h2 : σ x2 y2) {fn : Func} {b : Code} (hf : P.funcs[119]?=some fn) (hf' : Q.funcs[119]?=some fn) (hb : fn.body=some b) (ho : okCode P σ.F b=true) : RFr P σ (Frame.enter Q 119 #[ptr x0,ptr x1,ptr x2] .normal) (Frame.enter P 119 #[ptr y0,ptr y1,ptr y2] k):=by
  have p : ∀ {a b : Nat},σ a b→RV σ (ptr a) (ptr b):=fun h=>.pointer (.some ⟨h,rfl,rfl⟩)
  have e1 : (Frame.enter Q 119 #[ptr x0,ptr x1,ptr x2] .normal).todo=[.code b]:=by simp [Frame.enter,hf',hb]
  have e2 : (Frame.enter P 119 #[ptr y0,ptr y1,ptr y2] k).todo=[.code b]:=by simp [Frame.enter,hf,hb]
  refine ⟨rfl,?_,by rw [e1,e2]; exact .cons (.code ho) .nil,.nil,.run,⟨rfl,hk.1,hk.2⟩,.none⟩
  have ht1 : (Frame.enter Q 119 #[ptr x0,ptr x1,ptr x2] .normal).tmps=#[ptr x0,ptr x1,ptr x2]++Array.replicate (fn.ntmps - 3) undef:=by simp [Frame.enter,hf']
  have ht2 : (Frame.enter P 119 #[ptr y0,ptr y1,ptr y2] k).tmps=#[ptr y0,ptr y1,ptr y2]++Array.replicate (fn.ntmps - 3) undef:=by simp [Frame.enter,hf]
  rw [ht1,ht2]
  have a : RVs σ #[ptr x0,ptr x1,ptr x2] #[ptr y0,ptr y1,ptr y2]:=RVl.arr (.cons (p h0) (.cons (p h1) (.cons (p h2) .nil)))
  refine ⟨by simp,fun i v v' e1 e2=>?_⟩
  rw [Array.getElem?_append] at e1 e2
  by_cases hi : i < 3
  · rw [if_pos (by simpa using hi)] at e1 e2
    exact a.at_ i v v' e1 e2
  · rw [if_neg (by simpa using hi)] at e1 e2
    simp only [Array.getElem?_replicate] at e1 e2
    split at e1
    · cases e1
      split at e2
      · cases e2; exact rv_undef
      · cases e2
    · cases e1
end
theorem recv_comm {a : Act} {c : Nat} {cs : List Frame} {w : World} {r : List Nat} (h : a.eval (.tmp 17)=.chan (some c)) : ∃ z es,stepG Tryq.prog true (G (rcvFrame a (0 :: r)) cs) w=.comm (G (rcvFrame a (0 :: r)) cs) #[rcase c z] true (.recv true) w es:=by
  refine ⟨.agg #[.int .i64 0, .string ⟨#[]⟩, .int .i64 0], _, stepG_comm (o := { dst := some 18, op := .recv 165 (.tmp 17) true, type := 0, pos := "listing.go:108", after := #[], guard := none }) rfl rfl (by decide) ?_⟩
  have e : execOp a.eval { dst := some 18, op := .recv 165 (.tmp 17) true, type := 0, pos := "listing.go:108", after := #[], guard := none } = (do
    let .chan _ elem ← underlying 165 | stuck "receive: channel type expected"
    pure (.comm #[{ chan:=a.eval (.tmp 17),send:=none,zero:=←zeroValue elem }] true (.recv true))):=rfl
  rw [e,h]
  simp [go_sem,rcase]
theorem item_flat {v : Value} (h : ∃ (a b : Int) (s : ByteArray),v=.agg #[.int .i64 a,.string s,.int .i64 b]) : Flat v:=by
  obtain ⟨a,b,s,rfl⟩:=h
  intro ρ
  refine ⟨RVl.agg (.cons (.int _ _) (.cons (.string _) (.cons (.int _ _) .nil))),fun v' h=>?_⟩
  cases h with
  | @agg _ c' hc hx=>
    obtain ⟨cl⟩:=c'
    have hlen : cl.length=3:=by simpa using hc.symm
    rcases cl with - | ⟨x0,- | ⟨x1,- | ⟨x2,- | ⟨x3,cl⟩⟩⟩⟩ <;> simp at hlen
    have h0:=hx 0 _ x0 rfl rfl
    have h1:=hx 1 _ x1 rfl rfl
    have h2:=hx 2 _ x2 rfl rfl
    cases h0; cases h1; cases h2
    rfl
section
variable [Two Tryz.prog] [Two Tryq.prog]
structure PgEnv (G Fs Fr : FuncId→Bool) : Prop where
  alt : Tryz.prog.alt=Tryq.prog
  zero : ZeroOk Tryz.prog
  zero1 : ZeroOk Tryq.prog
  count : NoCount Tryz.prog
  count1 : NoCount Tryq.prog
  statS : StatF Tryz.prog Fs
  statR : StatF Tryz.prog Fr
  statS1 : StatF Tryq.prog Fs
  statR1 : StatF Tryq.prog Fr
  mark : ∀ f,Mk G f=true→f=69
  s : Fs bigF=false∧Fs bigC=false∧Fs bigM=false
  smk : ∀ f,¬Mk Fs f=true
  s119 : Fs 119=true
  r : Fr bigF=false∧Fr bigS=false∧Fr bigM=false
  rmk : ∀ f,¬Mk Fr f=true
  okG : okCode Tryz.prog G (cSnd (cFst pgCall))=true∧okCode Tryz.prog G (cSnd pgCall)=true
  okR : okCode Tryz.prog Fr (cSnd (cFst pgCall))=true∧okCode Tryz.prog Fr (cSnd pgCall)=true
  okR1 : okCode Tryq.prog Fr (cSnd (cFst pgCall))=true∧okCode Tryq.prog Fr (cSnd pgCall)=true
  notR : okCode Tryz.prog Fr (bodyOf Tryz.f69)=false
def AtRecv (c : Nat) (h : Goroutine) (V : World) : Prop:=
  ∃ a,h=G (rcvFrame a [0,1]) [trap Tryq.prog]∧a.eval (.tmp 17)=.chan (some c)∧∃ k s q,V.heap[c]?=some (.chan k #[] true s q false)
def AtShut (c : Nat) (L : List Value) (h : Goroutine) (V : World) : Prop:=
  (h.callers=[trap Tryq.prog]∧h.frame.fn=119∧h.frame.mode=.returning∧∃ at_ t k,h.frame.defers=[{ target:=.builtin .close at_ t k,args:=#[.chan (some c)] }])∧(h.dying=none∧h.status=.running)∧∃ k s q,V.heap[c]?=some (.chan k L.toArray false s q false)
noncomputable def phD (T : Goroutine→World→Prop) (G Fs Fr : FuncId→Bool) (L : List Value) (n m k : Nat) (X : List Frame×List Frame) (R0 : Nat→Nat→Prop) (h0 : Goroutine) (V0 : World) (U : Outer) : PhD Tryz.prog where
  T:=T
  Nr:=OnWay Tryq.prog ([trap Tryq.prog],[]) (fun a=>a=n+5) Fr
  Tr:=AtRecv (n+5)
  Ns:=OnWay Tryq.prog ([trap Tryq.prog],[]) (fun a=>a=n+5) Fs
  Ts:=AtShut (n+5) L
  h0:=h0
  V0:=V0
  k:=k
  c:=m+5
  cV:=n+5
  cr:=n+5
  cs:=n+5
  X:=X
  Bs:=[goBase Tryz.prog]
  L:=L
  R0:=R0
  Fp:=G
  Fr:=Fr
  bo:=m+6
  U:=U
theorem phOk {G Fs Fr : FuncId→Bool} (E : PgEnv G Fs Fr) {T : Goroutine→World→Prop} {Post : Value→World→Prop} {L : List Value} {n m k : Nat} {fr fr' : Frame} {cs cs' : List Frame} {ρ : Ren} {h0 : Goroutine} {V0 : World} {U : Outer} (hk : k≠0) (hL : ∀ v∈L,Flat v) (hT : ∀ h V,T h V→h.callers.length≤1)
    (hI : GId Tryz.prog ρ) (hE : ExtOk Tryz.prog ρ.F) (hFG : ρ.F=G) (hS : ρ.F bigS=false) (hM : ρ.F bigM=false) (hX : RFs Tryz.prog ρ ([trap Tryz.prog.alt],[]) (fr :: cs) (fr' :: cs')) (hlen : 1≤cs.length)
    (hsolo : ∀ h V,LSs Tryz.prog.alt T h0 V0 h V→SoloOk Tryz.prog U G [] Post h V) : PhOk Tryz.prog (phD T G Fs Fr L n m k (fr :: cs,fr' :: cs') ρ.rel h0 V0 U) Post where
  zero:=E.zero
  count:=E.count
  mark:=fun f hf fn b h1 h2=>by
    obtain rfl:=E.mark f hf
    rw [Tryz.func69] at h1
    cases h1
    have : bodyOf Tryz.f69=b:=by unfold bodyOf; rw [h2]; rfl
    rw [←this]
    exact E.notR
  k0:=hk
  flat:=hL
  deep:=by show 2≤(fr :: cs).length; simp; omega
  leafT:=hT
  nr:=fun h V hN=>by rw [E.alt]; exact hN.2
  tr:=fun h V hN=>by
    obtain ⟨a,rfl,h17,kk,s,q,hrow⟩:=hN
    refine ⟨fun _=>.inl rfl,fun n1 b s q tm hr=>?_,fun τ d=>?_⟩
    · have hr : V.heap[n+5]?=_:=hr
      rw [hrow] at hr
      cases hr
      rfl
    · obtain ⟨z,es,e⟩:=recv_comm (cs:=[trap Tryq.prog]) (w:=V.on τ d) (r:=[1]) h17
      rw [E.alt]
      exact ⟨_,_,_,_,_,_,_,e,.shut (r:=n+5) rfl rfl hrow⟩
  ns:=fun h V hN=>by rw [E.alt]; exact hN.2
  bs:=by simp [phD]
  grow:=fun h V τ d h' V' hN hl n b cl s q tm hr=>by
    rw [E.alt] at hl
    exact OnWay.grow (w:=V.on τ d) E.zero1 E.count1 E.s.2.1 (A:=fun a=>a=_) rfl ⟨hN.1.on τ d,hN.2⟩ hl hr
  ts:=fun h V hN nn b cl s q tm hr=>by
    obtain ⟨-,-,k2,s2,q2,hrow⟩:=hN
    have hr : V.heap[n+5]?=_:=hr
    rw [hrow] at hr
    cases hr
    exact ⟨rfl,rfl⟩
  close:=fun h V ρs g W hN S nn b s q tm hrow=>by
    obtain ⟨⟨h1,h2,h3,h4⟩,-⟩:=hN
    exact close_ok Tryz.func119 rfl S ⟨by rw [E.alt]; exact h1,h2,h3,h4⟩ hrow
  fin:=phase_fin (ρ0:=ρ) (fun _ _ h=>h) hI hE hS hM (fun f hf=>by rw [hFG]; exact hf) (by rw [hFG]; rfl) hX (by show 2≤(fr :: cs).length; simp; omega) (by show 0 < (fr' :: cs').length; simp) (by rw [hFG]; exact hsolo)
end
theorem callW_chan (V : World) (l : Lst) (room : Nat) : (callW V l room).heap[V.heap.size+5]?=some (.chan room #[] false 0 0 false):=callW_row V l room 5 (by omega)
section
variable [Two Tryz.prog] [Two Tryq.prog] {Gf Fs Fr : FuncId→Bool} {Pre : Lst→List Value→World→Prop} {ρ : Ren} {V W : World} {l : Lst} {r' : Option Addr} {L : List Value}
def sRen (S : SimW ρ V W) (hS : ρ.F bigS=false) : Ren:=ρ.plus V.heap.size W.heap.size (fun i=>3≤i∧i < 7) (fun _ _ h=>S.lt h) (fun a=>a=V.heap.size+5) hS
def rRen (S : SimW ρ V W) (hS : ρ.F bigS=false) : Ren:=ρ.plus V.heap.size W.heap.size (fun i=>i < 7) (fun _ _ h=>S.lt h) (fun a=>a=V.heap.size+5) hS
noncomputable def sndH (n : Nat) : Goroutine:=G (Frame.enter Tryq.prog 119 #[ptr (n+6),ptr (n+3),ptr (n+4)] .normal) [trap Tryq.prog]
noncomputable def sndG (m : Nat) : Goroutine:=G (Frame.enter Tryz.prog 119 #[ptr (m+6),ptr (m+3),ptr (m+4)] .deferred) [goBase Tryz.prog]
theorem snd_tree (E : PgEnv Gf Fs Fr) (hPre : PgPre Pre) (S : SimW ρ V W) (hS : ρ.F bigS=false) (hr : RAo ρ l.root r') (hp : Pre l L V) (hI : GId Tryz.prog ρ) (dd : Nat) :
    ∃ Vs ht,Snd Tryz.prog ([trap Tryz.prog.alt],[goBase Tryz.prog]) ((sRen S hS).low Fs (fun _=>False) (V.heap.size+5) false ht) (sndH V.heap.size) (sndG W.heap.size) Vs ((callW W { l with root:=r' } 20).at dd) (V.heap.size+5) (W.heap.size+5) [] ∧
      Dem Tryq.prog (OnWay Tryq.prog ([trap Tryq.prog],[]) (fun a=>a=V.heap.size+5) Fs) (AtShut (V.heap.size+5) L) (sndH V.heap.size) Vs:=by
  have hold : ∀ a b,ρ a b→(callW V l 1000).heap[a]?=V.heap[a]?:=fun a b h=>callW_old V l 1000 (S.lt h).1
  have S3 : SimW (sRen S hS) (callW V l 1000) ((callW W { l with root:=r' } 20).at dd):=call_sim S hS hr (fun i h=>h.2) ⟨by omega,by omega⟩ hold (fun _ _ _=>rfl) ⟨_,_,_,_,_,callW_chan V l 1000⟩ rfl (fun c h=>by
    have h : c=_:=h
    subst h
    exact ⟨_,callW_chan V l 1000,rfl⟩) dd
  have ht : Fs bigS=true→false=false:=fun _=>rfl
  have pr : ∀ i,3≤i→i < 7→(sRen S hS) (V.heap.size+i) (W.heap.size+i):=fun i h1 h2=>plus_new ⟨h1,h2⟩
  obtain ⟨Vs,SS,hsz,htp,hdr,hos,hrow,honly,hcell,-,hplain⟩:=lower (F:=Fs) (live:=fun _=>False) (c:=V.heap.size+5) (c':=W.heap.size+5) (wide:=false) (n:=1000) (b:=#[]) (cl:=false) (s:=0) (q:=0) S3 ht E.s.1 (pr 5 (by omega) (by omega)) (callW_chan W { l with root:=r' } 20) (.inr rfl) (fun a h=>h.elim)
  refine ⟨Vs,ht,?_,?_⟩
  · have okb : okCode Tryz.prog Fs (bodyOf Tryz.f119)=true:=E.statS.code 119 _ _ E.s119 Tryz.func119 rfl
    refine ⟨⟨snd_rel (P:=Tryz.prog) (σ:=(sRen S hS).low Fs (fun _=>False) (V.heap.size+5) false ht) (Q:=Tryq.prog) .deferred ⟨rfl,by simp⟩ (pr 6 (by omega) (by omega)) (pr 3 (by omega) (by omega)) (pr 4 (by omega) (by omega)) Tryz.func119 Tryq.func119 rfl okb,by rw [E.alt]; exact .base,⟨fun h=>?_,fun _=>rfl⟩,⟨rfl,rfl⟩,⟨rfl,rfl⟩,rfl,rfl⟩,SS,E.statS.gid (fun g hg=>.inl (hI.glob g hg)) hI.prog (fun h=>by rw [show (((sRen S hS).low Fs (fun _=>False) (V.heap.size+5) false ht).F)=Fs from rfl,E.s.1] at h; cases h),E.statS.ext,⟨E.s.2.1,E.s.2.2⟩,E.smk,⟨rfl,rfl⟩,fun x=>Iff.rfl,pr 5 (by omega) (by omega),⟨_,_,_,_,_,hrow,rfl⟩,fun a n b s q tm h=>honly a _ h rfl⟩
    rcases h with h | h
    · exact absurd rfl h
    · rw [E.alt] at h; simp at h
  · have hb : Boxes Vs (V.heap.size+6) (V.heap.size+3) (V.heap.size+4) (V.heap.size+5) l.root l.vs l.p l.d l.af:=by
      have hb:=callW_boxes V l 1000
      exact ⟨hcell _ _ _ _ (pr 6 (by omega) (by omega)) hb.out (.chan _),hcell _ _ _ _ (pr 3 (by omega) (by omega)) hb.q0 (.bool _),hcell _ _ _ _ (pr 3 (by omega) (by omega)) hb.q1 (.string _),hcell _ _ _ _ (pr 3 (by omega) (by omega)) hb.q2 (.string _),hcell _ _ _ _ (pr 3 (by omega) (by omega)) hb.q3 (.string _),hcell _ _ _ _ (pr 4 (by omega) (by omega)) hb.st (.pointer _)⟩
    have hp3 : Pre l L (callW V l 1000):=hPre.on V _ l L (callW_cell V l 1000) (by rw [callW_size]; omega) hp
    have hps : Pre l L Vs:=hPre.low _ _ _ _ l L S3 ⟨r',RAo.re plus_sub hr⟩ hcell (by rw [hsz]; exact Nat.le_refl _) hp3
    have okb : okCode Tryq.prog Fs (bodyOf Tryz.f119)=true:=E.statS1.code 119 _ _ E.s119 Tryq.func119 rfl
    refine dem_of_steps E.zero1 E.count1 (fun g w h=>⟨by rw [h.1.1]; simp,h.2.1⟩) (fun g w τ d=>Iff.rfl) ⟨rfl,((sRen S hS).low Fs (fun _=>False) (V.heap.size+5) false ht).firm Tryq.prog (V.heap.size+5),G (Frame.enter Tryq.prog 119 #[ptr (W.heap.size+6),ptr (W.heap.size+3),ptr (W.heap.size+4)] .normal) [],(callW W { l with root:=r' } 20).at dd,⟨snd_rel (P:=Tryq.prog) (σ:=((sRen S hS).low Fs (fun _=>False) (V.heap.size+5) false ht).firm Tryq.prog (V.heap.size+5)) (Q:=Tryq.prog) .normal ⟨rfl,by simp⟩ (pr 6 (by omega) (by omega)) (pr 3 (by omega) (by omega)) (pr 4 (by omega) (by omega)) Tryq.func119 Tryq.func119 rfl okb,.base,⟨fun _=>rfl,fun _=>rfl⟩,⟨rfl,rfl⟩,⟨rfl,rfl⟩,rfl,rfl⟩,firm_sim SS (pr 5 (by omega) (by omega)) hplain (fun _ _=>rfl) rfl hrow (callW_chan W { l with root:=r' } 20) RVs.nil,E.statS1.gid (fun g hg=>.inl (hI.glob g (by rw [Tryq.globals_size] at hg; exact hg))) rfl (fun _ _ h=>h),E.statS1.ext,rfl,rfl,⟨rfl,fun c h=>⟨W.heap.size+5,by rw [show c=V.heap.size+5 from h]; exact pr 5 (by omega) (by omega)⟩,rfl⟩,fun _ h=>h,E.smk⟩ (fun τ d=>?_)
    have hsend:=hPre.send l L (Vs.on τ d) (V.heap.size+5) (hPre.on Vs _ l L (fun _ _=>rfl) (Nat.le_refl _) hps) hrow
    obtain ⟨fr,w',df,hst,hf,hm,hd,⟨at_,t,k,rfl⟩,-,-,-,hrow'⟩:=snd_close (w:=Vs.on τ d) ⟨hb.out,hb.q0,hb.q1,hb.q2,hb.q3,hb.st⟩ hsend [trap Tryq.prog]
    exact ⟨_,w',hst,⟨rfl,hf,hm,at_,t,k,hd⟩,⟨rfl,rfl⟩,_,_,_,hrow'⟩
end
def RecvOk : Prop:=∀ (l : Lst) (pn : Int) (L : List Value) (n c : Nat) (w : World) (cs : List Frame),(∀ v∈L,∃ (a b : Int) (s : ByteArray),v=.agg #[.int .i64 a,.string s,.int .i64 b])→L.length≤1000→n+2 < c →
  w.heap[n]?=some (.cells (lCells l) 125)→w.heap[n+1]?=some (.cells #[.slice none 0 0,.string ⟨#[]⟩] 88)→w.heap[n+2]?=some (.cells #[.slice none 0 0,.string ⟨#[]⟩] 88)→(∃ k s q,w.heap[c]?=some (.chan k L.toArray true s q false)) →
  ∃ a w',Steps Tryq.prog (lone (pF2 n l pn c) cs w) (lone (rcvFrame a [0,1]) cs w')∧a.eval (.tmp 17)=.chan (some c)∧∃ k s q,w'.heap[c]?=some (.chan k #[] true s q false)
theorem good_lCells (l : Lst) : ∀ (i : Nat) v,(lCells l)[i]?=some v→Good v:=fun i v h=>by
  rcases i with - | - | - | - | - | - | - | - | i <;> simp [lCells] at h <;> subst h
  · exact .int _ _
  · exact .pointer _
  · exact .bool _
  · exact .string _
  · exact .string _
  · exact .string _
  · exact .int _ _
  · exact .int _ _
theorem good_page : ∀ (i : Nat) v,(#[.slice none 0 0,.string ⟨#[]⟩] : Array Value)[i]?=some v→Good v:=fun i v h=>by
  rcases i with - | - | i <;> simp at h <;> subst h
  · exact .slice _ _ _
  · exact .string _
section
variable [Two Tryz.prog] [Two Tryq.prog] {Gf Fs Fr : FuncId→Bool} {ρ : Ren} {V W : World} {l : Lst} {r' : Option Addr} {L : List Value}
def own3 (n a : Nat) : Prop:=a=n∨a=n+1∨a=n+2
theorem rcv_tree (E : PgEnv Gf Fs Fr) (hR : RecvOk) (S : SimW ρ V W) (hS : ρ.F bigS=false) (hr : RAo ρ l.root r') (pn : Int) (hL : ∀ v∈L,∃ (a b : Int) (s : ByteArray),v=.agg #[.int .i64 a,.string s,.int .i64 b]) (hlen : L.length≤1000) (hI : GId Tryz.prog ρ) (Y : List Frame) (dd : Nat) :
    ∃ Vr ht,Side Tryz.prog ([trap Tryz.prog.alt],Y) ((rRen S hS).low Fr (own3 V.heap.size) (V.heap.size+5) true ht) (G (pF2 V.heap.size l pn (V.heap.size+5)) [trap Tryq.prog]) (G (pF2 W.heap.size { l with root:=r' } pn (W.heap.size+5)) Y) Vr ((callW W { l with root:=r' } 20).at dd) (V.heap.size+5) (W.heap.size+5) L ∧
      (∀ (a : Nat) o,Vr.heap[a]?=some o→o.isChan=true→a=V.heap.size+5) ∧
      Dem Tryq.prog (OnWay Tryq.prog ([trap Tryq.prog],[]) (fun a=>a=V.heap.size+5) Fr) (AtRecv (V.heap.size+5)) (G (pF2 V.heap.size l pn (V.heap.size+5)) [trap Tryq.prog]) Vr:=by
  have hold : ∀ a b,ρ a b→(callW V l 1000).heap[a]?=V.heap[a]?:=fun a b h=>callW_old V l 1000 (S.lt h).1
  have S3 : SimW (rRen S hS) (callW V l 1000) ((callW W { l with root:=r' } 20).at dd):=call_sim S hS hr (fun i h=>h) (by omega) hold (fun _ _ _=>rfl) ⟨_,_,_,_,_,callW_chan V l 1000⟩ rfl (fun c h=>by
    have h : c=_:=h
    subst h
    exact ⟨_,callW_chan V l 1000,rfl⟩) dd
  have ht : Fr bigS=true→true=false:=fun h=>by rw [E.r.2.1] at h; cases h
  have pr : ∀ i,i < 7→(rRen S hS) (V.heap.size+i) (W.heap.size+i):=fun i h=>plus_new h
  have r0:=callW_row V l 1000 0 (by omega)
  have r1:=callW_row V l 1000 1 (by omega)
  have r2:=callW_row V l 1000 2 (by omega)
  have hlive : ∀ a,own3 V.heap.size a→a≠V.heap.size+5∧∃ x e z,(callW V l 1000).heap[a]?=some (.cells x e z)∧(∀ (i : Nat) v,x[i]?=some v→Good v)∧∀ y,(rRen S hS) a y→∃ x',((callW W { l with root:=r' } 20).at dd).heap[y]?=some (.cells x' e z):=fun a ha=>by
    rcases ha with rfl | rfl | rfl
    · refine ⟨by omega,_,_,_,r0,good_lCells l,fun y hy=>?_⟩
      obtain rfl:=(rRen S hS).fn _ _ _ hy (pr 0 (by omega))
      exact ⟨_,callW_row W { l with root:=r' } 20 0 (by omega)⟩
    · refine ⟨by omega,_,_,_,r1,good_page,fun y hy=>?_⟩
      obtain rfl:=(rRen S hS).fn _ _ _ hy (pr 1 (by omega))
      exact ⟨_,callW_row W { l with root:=r' } 20 1 (by omega)⟩
    · refine ⟨by omega,_,_,_,r2,good_page,fun y hy=>?_⟩
      obtain rfl:=(rRen S hS).fn _ _ _ hy (pr 2 (by omega))
      exact ⟨_,callW_row W { l with root:=r' } 20 2 (by omega)⟩
  obtain ⟨Vr,SS,hsz,htp,hdr,hos,hrow,honly,hcell,hlv,hplain⟩:=lower (F:=Fr) (live:=own3 V.heap.size) (c:=V.heap.size+5) (c':=W.heap.size+5) (wide:=true) (n:=1000) (b:=L.toArray) (cl:=true) (s:=L.length) (q:=0) S3 ht E.r.1 (pr 5 (by omega)) (callW_chan W { l with root:=r' } 20) (.inl rfl) hlive
  have hr2 : ∀ {σ : Ren},(∀ a b,(rRen S hS) a b→σ a b)→RAo σ l.root r':=fun hσ=>by
    generalize l.root=x at hr
    cases hr with
    | none=>exact .none
    | some h=>exact .some ⟨hσ _ _ (.inl h.1),h.2⟩
  refine ⟨Vr,ht,?_,honly,?_⟩
  · refine ⟨⟨pF2_rel (P:=Tryz.prog) (σ:=(rRen S hS).low Fr (own3 V.heap.size) (V.heap.size+5) true ht) (pr 0 (by omega)) (pr 1 (by omega)) (pr 2 (by omega)) (pr 5 (by omega)) (hr2 fun _ _ h=>h) E.okR,by rw [E.alt]; exact .base,⟨fun _=>rfl,fun _=>rfl⟩,⟨rfl,rfl⟩,⟨rfl,rfl⟩,rfl,rfl⟩,SS,E.statR.gid (fun g hg=>.inl (hI.glob g hg)) hI.prog (fun h=>by rw [show (((rRen S hS).low Fr (own3 V.heap.size) (V.heap.size+5) true ht).F)=Fr from rfl,E.r.1] at h; cases h),E.statR.ext,⟨E.r.2.1,E.r.2.2⟩,⟨rfl,rfl⟩,rfl,pr 5 (by omega),⟨_,_,_,_,_,hrow,rfl⟩⟩
  · have hLr : ∀ {σ : Ren},RVs σ L.toArray L.toArray:=⟨rfl,fun i v v' h1 h2=>by
      rw [h1] at h2
      cases h2
      exact (item_flat (hL v (by
        have : L[i]?=some v:=by simpa using h1
        exact List.mem_of_getElem? this)) _).1⟩
    refine dem_of_steps E.zero1 E.count1 (fun g w h=>?_) (fun g w τ d=>Iff.rfl) ⟨rfl,((rRen S hS).low Fr (own3 V.heap.size) (V.heap.size+5) true ht).firm Tryq.prog (V.heap.size+5),G (pF2 W.heap.size { l with root:=r' } pn (W.heap.size+5)) [],((callW W { l with root:=r' } 20).at dd).setChan (W.heap.size+5) 20 L.toArray true 0 0 false,⟨pF2_rel (P:=Tryq.prog) (σ:=((rRen S hS).low Fr (own3 V.heap.size) (V.heap.size+5) true ht).firm Tryq.prog (V.heap.size+5)) (pr 0 (by omega)) (pr 1 (by omega)) (pr 2 (by omega)) (pr 5 (by omega)) (hr2 fun _ _ h=>h) E.okR1,.base,⟨fun _=>rfl,fun _=>rfl⟩,⟨rfl,rfl⟩,⟨rfl,rfl⟩,rfl,rfl⟩,firm_sim SS (pr 5 (by omega)) hplain (fun b hb=>setChan_other _ _ _ _ _ _ _ _ hb) rfl hrow (heap_setChan _ _ _ _ _ _ _ _ (Array.getElem?_eq_some_iff.1 (callW_chan W { l with root:=r' } 20)).1) hLr,E.statR1.gid (fun g hg=>.inl (hI.glob g (by rw [Tryq.globals_size] at hg; exact hg))) rfl (fun _ _ h=>h),E.statR1.ext,rfl,rfl,⟨rfl,fun c h=>⟨W.heap.size+5,by rw [show c=V.heap.size+5 from h]; exact pr 5 (by omega)⟩,rfl⟩,fun _ h=>h,E.rmk⟩ (fun τ d=>?_)
    · obtain ⟨a,rfl,-⟩:=h
      exact ⟨by simp [G],rfl,rfl⟩
    · obtain ⟨a,w',hs,h17,hrow'⟩:=hR l pn L V.heap.size (V.heap.size+5) (Vr.on τ d) [trap Tryq.prog] hL hlen (by omega) ((hlv _ (.inl rfl)).trans r0) ((hlv _ (.inr (.inl rfl))).trans r1) ((hlv _ (.inr (.inr rfl))).trans r2) ⟨_,_,_,hrow⟩
      exact ⟨_,w',hs,a,rfl,h17,hrow'⟩
end
theorem go_step (m : Nat) (l : Lst) (root : Option Addr) (cs : List Frame) (w : World) : stepG Tryz.prog true (G ((base 97).at ⟨itTmps m root l.vs l.p l.d l.af (caught m),[]⟩ [.inRegion goOps [1],.code itRest]) cs) w=.spawn (G ((base 97).at ⟨itTmps m root l.vs l.p l.d l.af (caught m),[]⟩ [.inRegion goOps [],.code itRest]) cs) (born Tryz.prog { target:=.fn (.func 119) #[ptr (m+3),ptr m,ptr (m+1)],args:=#[] }) w #[]:=by
  have hr : (execOp (Act.eval ⟨itTmps m root l.vs l.p l.d l.af (caught m), []⟩) { dst := none, op := .go { callee := .value (.tmp 7), args := #[], argTypes := #[] }, type := 0, pos := "items.go:22", after := #[{ on := 0, ground := .data }], guard := none }).run Tryz.prog w = .ok (.spawn { target := .fn (.func 119) #[ptr (m + 3), ptr m, ptr (m + 1)], args := #[] }) w := by
    simp [go_sem,Act.eval,itTmps,caught]
  have := stepG_spawn (P := Tryz.prog) (main := true) (b := base 97) (a := ⟨itTmps m root l.vs l.p l.d l.af (caught m), []⟩) (k := [.code itRest]) (cs := cs) (w := w) (ops := goOps) (i := 1) (rest := []) (o := { dst := none, op := .go { callee := .value (.tmp 7), args := #[], argTypes := #[] }, type := 0, pos := "items.go:22", after := #[{ on := 0, ground := .data }], guard := none }) rfl rfl (by decide) hr rfl
  rw [this]
  have hl : listed Tryz.prog (base 97).fn ⟨itTmps m root l.vs l.p l.d l.af (caught m), []⟩ { dst := none, op := .go { callee := .value (.tmp 7), args := #[], argTypes := #[] }, type := 0, pos := "items.go:22", after := #[{ on := 0, ground := .data }], guard := none } w = #[] := listed_nil (by simp [go_sem, Act.eval, itTmps, caught])
  rw [hl]
  rfl
theorem runT_call {Q : Program} {i : Nat} {fn : Func} (h : Q.funcs[i]? = some fn) (hn : (fn.name == "runtime.NumGoroutine") = false) (hb : fn.body.isNone = false) (args : Array Value) (w : World) : (callFunc i args).runT Q w #[] = (.ok (.enter i args) w, #[]) := by
  show Sem.runT Q (match Q.funcs[i]? with | none=>_ | some fn=>_) w #[]=_
  rw [h]
  simp only [hn,hb]
  rfl
theorem born_step (m : Nat) (w : World) : stepG Tryz.prog false (born Tryz.prog { target:=.fn (.func 119) #[ptr (m+6),ptr (m+3),ptr (m+4)],args:=#[] }) w=.go (sndG m) w #[]:=by
  have hc : (callFunc 119 #[ptr (m+6),ptr (m+3),ptr (m+4)]).runT Tryz.prog w #[]=(.ok (.enter 119 #[ptr (m+6),ptr (m+3),ptr (m+4)]) w,#[]):=runT_call Tryz.func119 rfl rfl _ w
  have hi : (invoke (.fn (.func 119) #[ptr (m+6),ptr (m+3),ptr (m+4)]) #[]).runT Tryz.prog w #[]=(.ok (.enter 119 #[ptr (m+6),ptr (m+3),ptr (m+4)]) w,#[]):=by
    unfold invoke
    simpa using hc
  have h0 : stepG Tryz.prog false (born Tryz.prog { target:=.fn (.func 119) #[ptr (m+6),ptr (m+3),ptr (m+4)],args:=#[] }) w=callDeferred Tryz.prog (goBase Tryz.prog) [] none { target:=.fn (.func 119) #[ptr (m+6),ptr (m+3),ptr (m+4)],args:=#[] } w:=rfl
  rw [h0]
  unfold callDeferred
  simp only [hi]
  rfl
section
variable [Two Tryz.prog] [Two Tryq.prog] {Gf Fs Fr : FuncId→Bool} {Pre : Lst→List Value→World→Prop}
structure StopOk (Pre : Lst→List Value→World→Prop) (R : (Nat→Question→Nat)→Nat→Ending→World→Prop) : Prop where
  stop : ∀ τ d x y e u,R τ d (.panicked (stopEntry x y :: e)) u→∃ l pn L,x=lV l∧y=.int .i64 pn∧Pre l L u
end
section
variable [Two Tryz.prog] [Two Tryq.prog] {Gf Fs Fr : FuncId→Bool} {Pre : Lst→List Value→World→Prop}
theorem page_pre_known {f0 : FuncId} {R : (Nat→Question→Nat)→Nat→Ending→World→Prop} (E : PgEnv Gf Fs Fr) (hStop : StopOk Pre R) (hce : ∀ l L V u,Ce V u→Pre l L u→Pre l L V) {x y : Value} {fr fr' : Frame} {cs cs' : List Frame} {V W : World} {ρ : Ren} {U : Outer}
    (hRel : Rel Tryz.prog U Gf [] ρ { frame:=fr,callers:=cs,status:=.running,dying:=none } { frame:=fr',callers:=cs',status:=.running,dying:=none } V W)
    (hD : Dem Tryq.prog (fun g _=>NB [trap Tryq.prog] g) (Ends Tryq.prog f0 R) { frame:=Frame.enter Tryq.prog 69 #[x,y] .normal,callers:=fr :: cs,status:=.running,dying:=none } V) :
    ∃ l pn L,x=lV l∧y=.int .i64 pn∧Pre l L V:=by
  have hSM : (ρ.F bigS || ρ.F bigM)=false:=by rw [hRel.calm,hRel.quiet.1]; rfl
  have hlen : 1≤cs.length:=by
    have:=hRel.go.callers.len1
    simpa using this
  have hcal:=hRel.go.callers
  rw [E.alt] at hcal
  have hDm:=Dem.on (fun _ _ _ _ h=>h) (fun g w τ d=>Ends.on τ d) hD (fun _ _=>0) 0
  obtain ⟨frm,hst,hm,hd,hf⟩:=magic_yes x y (fr :: cs) (V.on (fun _ _=>0) 0) sched0
  obtain ⟨k,hk⟩:=hst
  obtain ⟨-,hDp⟩:=dem_run (fun g w h=>ends_short h) k _ _ hDm rfl { frame:=frm,callers:=fr :: cs,status:=.running,dying:=none } _ hk rfl (by simp; omega)
  have hcat : frm.catches Tryq.prog=false:=by unfold Frame.catches; rw [hf,Tryq.func69]
  obtain ⟨τ,d,e,u,hR,hC⟩:=unwound (ρ:=ρ) (en:=stopEntry x y) (V:=V) hDp [] hm rfl hcat (by rw [hd]; exact fun d h=>by cases h) (.cons (catches_no hRel.go.frame _).1 (hRel.go.frame.defers.marks hSM) (RFs.fl hSM hcal)) (fun r b hrb l0 h0=>by
    obtain ⟨o,o',h1,h2,h3⟩:=hRel.sim.obj r b hrb
    have h0 : V.heap[r]?=_:=h0
    rw [h1] at h0
    cases h0
    cases h3 with
    | deferred h=>exact h.marks hSM) ⟨rfl,fun _=>rfl⟩
  obtain ⟨l,pn,L,h1,h2,h3⟩:=hStop.stop τ d x y e u hR
  exact ⟨l,pn,L,h1,h2,hce l L V u hC h3⟩
theorem apart_page {f0 : FuncId} {R : (Nat→Question→Nat)→Nat→Ending→World→Prop} {Post : Value→World→Prop} {U : Outer} (E : PgEnv Gf Fs Fr) (hPre : PgPre Pre) (hRecv : RecvOk) (hStop : StopOk Pre R) (hce : ∀ l L V u,Ce V u→Pre l L u→Pre l L V) : ApartOk Tryz.prog U Gf [] (Ends Tryq.prog f0 R) Post:=by
  intro f a a' fr fr' cs cs' V W ρ hM ⟨hargs,ha2⟩ hRel hD hsolo gs sl t q h0 hL hP
  obtain rfl : f=69:=E.mark f (by rw [←hRel.same]; exact hM)
  obtain ⟨al⟩:=a
  rcases al with - | ⟨x,- | ⟨y,- | ⟨z,al⟩⟩⟩ <;> simp at ha2
  have hD0:=hD
  rw [E.alt] at hD0
  obtain ⟨l,pn,L,rfl,rfl,hp⟩:=page_pre_known E hStop hce hRel hD0
  obtain ⟨r',hr,rfl⟩:=args_inv hargs
  have hlen : 1≤cs.length:=by
    have:=hRel.go.callers.len1
    simpa using this
  have hS:=hRel.calm
  have hBM:=hRel.quiet.1
  have hX : RFs Tryz.prog ρ ([trap Tryz.prog.alt],[]) (fr :: cs) (fr' :: cs'):=.cons hRel.go.frame hRel.go.kind hRel.go.callers
  -- the run alone
  have hDn:=Dem.on (fun _ _ _ _ h=>h) (fun g w τ d=>Ends.on τ d) hD0 (fun _ _=>1) 0
  obtain ⟨V4,⟨k4,hk4⟩,hV7,hV5,hos4⟩:=page_path hPre l pn L (V.on (fun _ _=>1) 0) (fr :: cs) (hPre.on V _ l L (fun _ _=>rfl) (Nat.le_refl _) hp) sched1
  obtain ⟨hls,hDh⟩:=dem_run (fun g w h=>ends_short h) k4 _ _ hDn rfl { frame:=pF2 V.heap.size l pn (V.heap.size+5),callers:=fr :: cs,status:=.running,dying:=none } V4 hk4 rfl (by simp; omega)
  have hpath : LSs Tryq.prog (Ends Tryq.prog f0 R) { frame:=Frame.enter Tryq.prog 69 #[lV l,.int .i64 pn] .normal,callers:=fr :: cs,status:=.running,dying:=none } V { frame:=pF2 V.heap.size l pn (V.heap.size+5),callers:=fr :: cs,status:=.running,dying:=none } V4:=by
    rcases LSs.on (fun g w τ d=>Ends.on τ d) hls with ⟨e,-⟩ | h
    · exfalso
      have:=congrArg (fun g : Goroutine=>g.frame.todo) e
      rw [page_enter] at this
      cases this
    · exact h
  have hV7 : ∀ b,b < V.heap.size+7→b≠V.heap.size+5→V4.heap[b]?=(callW V l 1000).heap[b]?:=hV7
  have hV5 : V4.heap[V.heap.size+5]?=some (.chan 1000 L.toArray true L.length 0 false):=hV5
  have hos4 : V4.os=V.os:=hos4
  have hVold : ∀ a b,ρ a b→V4.heap[a]?=V.heap[a]?:=fun a b h=>by
    have:=(hRel.sim.lt h).1
    exact (hV7 a (by omega) (by omega)).trans (callW_old V l 1000 this)
  have hsz : W.heap.size+7=W.heap.size+7:=rfl
  refine goes_fin (B:=W.heap.size+7) (page_go { l with root:=r' } pn (fr' :: cs') W (W.heap.size+7) rfl (fun dd=>?_)) gs sl t q h0 hL (hP.mono (by omega))
  have hpsz : ((pgW W { l with root:=r' }).at dd).heap.size=W.heap.size+3:=pgW_size W _
  refine goes_fin (items_go _ _ r' l.vs l.p l.d l.af ((pgW W { l with root:=r' }).at dd) (W.heap.size+7) (by rw [hpsz]) (fun d2=>?_))
  intro gs1 sl1 t1 q1 h1 hL1 hP1
  have hrw : ∀ d3,(itW ((pgW W { l with root:=r' }).at dd) r' l.vs l.p l.d l.af 20).at d3=(callW W { l with root:=r' } 20).at d3:=fun _=>rfl
  rw [hpsz] at h1
  rw [hrw]
  obtain ⟨Vs,hts,hSnd,hDs⟩:=snd_tree E hPre hRel.sim hS hr hp hRel.gid 0
  obtain ⟨Vr,htr,hSide,honly,hDr⟩:=rcv_tree E hRecv hRel.sim hS hr pn (hPre.item l L V hp) (hPre.len l L V hp) hRel.gid (fr' :: cs') 0
  refine spawn_fin (W:=callW W { l with root:=r' } 20) (g:=G ((base 97).at ⟨itTmps (W.heap.size+3) r' l.vs l.p l.d l.af (caught (W.heap.size+3)),[]⟩ [.inRegion goOps [1],.code itRest]) (pF W.heap.size { l with root:=r' } pn :: fr' :: cs')) rfl (fun d=>go_step (W.heap.size+3) l r' _ _)
    (ρr:=(rRen hRel.sim hS).low Fr (own3 V.heap.size) (V.heap.size+5) true htr) (ρs:=(sRen hRel.sim hS).low Fs (fun _=>False) (V.heap.size+5) false hts) (fun gs2 sl2 t2 q2 d k hk0 hg0 hgk hL2 hP2=>?_) gs1 sl1 t1 q1 d2 h1 hL1 (by rw [callW_size]; exact hP1)
  -- the phase
  have O : PhOk Tryz.prog (phD (Ends Tryq.prog f0 R) Gf Fs Fr L V.heap.size W.heap.size k (fr :: cs,fr' :: cs') ρ.rel { frame:=Frame.enter Tryq.prog 69 #[lV l,.int .i64 pn] .normal,callers:=fr :: cs,status:=.running,dying:=none } V U) Post:=
    phOk E hk0 (fun v hv=>item_flat (hPre.item l L V hp v hv)) (fun h V hT=>by obtain ⟨_,_,_,_,_,_,_,rfl,-⟩:=hT; simp) hRel.gid hRel.ext hRel.same hS hBM hX hlen (fun h V2 hl=>hsolo h V2 (by rw [E.alt] at hl ⊢; exact hl))
  have hchA : ∀ c,(c=V.heap.size+5∨∃ b o,ρ c b∧V.heap[c]?=some o∧o.isChan=true)→∃ o,V4.heap[c]?=some o∧o.isChan=true:=fun c h=>by
    rcases h with rfl | ⟨b,o,h1,h2,h3⟩
    · exact ⟨_,hV5,rfl⟩
    · exact ⟨o,(hVold c b h1).trans h2,h3⟩
  have SA : SimW (ρ.plus V.heap.size W.heap.size (fun i=>i < 7) (fun _ _ h=>hRel.sim.lt h) (fun c=>c=V.heap.size+5∨∃ b o,ρ c b∧V.heap[c]?=some o∧o.isChan=true) hS) V4 ((callW W { l with root:=r' } 20).at d):=
    call_sim hRel.sim hS hr (fun i h=>h) (by omega) hVold (fun i h h5=>hV7 _ (by omega) (by omega)) ⟨_,_,_,_,_,hV5⟩ hos4 hchA d
  have prA : ∀ i,i < 7→(ρ.plus V.heap.size W.heap.size (fun i=>i < 7) (fun _ _ h=>hRel.sim.lt h) (fun c=>c=V.heap.size+5∨∃ b o,ρ c b∧V.heap[c]?=some o∧o.isChan=true) hS) (V.heap.size+i) (W.heap.size+i):=fun i h=>plus_new h
  generalize hρA : ρ.plus V.heap.size W.heap.size (fun i=>i < 7) (fun _ _ h=>hRel.sim.lt h) (fun c=>c=V.heap.size+5∨∃ b o,ρ c b∧V.heap[c]?=some o∧o.isChan=true) hS=ρA at SA prA
  have hFA : ρA.F=Gf:=by subst hρA; exact hRel.same
  have hAinv : ∀ a b,ρA a b→ρ a b∨∃ i,i < 7∧a=V.heap.size+i∧b=W.heap.size+i:=fun a b h=>by subst hρA; exact h
  have hAsub : ∀ a b,ρ a b→ρA a b:=fun a b h=>by subst hρA; exact .inl h
  have hrA : RAo ρA l.root r':=by
    generalize l.root=x at hr
    cases hr with
    | none=>exact .none
    | some h=>exact .some ⟨hAsub _ _ h.1,h.2⟩
  have RR : RcvR (phD (Ends Tryq.prog f0 R) Gf Fs Fr L V.heap.size W.heap.size k (fr :: cs,fr' :: cs') ρ.rel { frame:=Frame.enter Tryq.prog 69 #[lV l,.int .i64 pn] .normal,callers:=fr :: cs,status:=.running,dying:=none } V U) ρA ((rRen hRel.sim hS).low Fr (own3 V.heap.size) (V.heap.size+5) true htr) ((callW W { l with root:=r' } 20).at d) { frame:=pF2 V.heap.size l pn (V.heap.size+5),callers:=fr :: cs,status:=.running,dying:=none } (G (pF2 V.heap.size l pn (V.heap.size+5)) [trap Tryq.prog]) (G (pF2 W.heap.size { l with root:=r' } pn (W.heap.size+5)) (fr' :: cs')) V4 Vr L:=by
    refine ⟨⟨⟨pF2_rel (P:=Tryz.prog) (σ:=ρA) (prA 0 (by omega)) (prA 1 (by omega)) (prA 2 (by omega)) (prA 5 (by omega)) hrA (by rw [hFA]; exact E.okG),.base,⟨fun _=>rfl,fun _=>rfl⟩,⟨rfl,rfl⟩,⟨rfl,rfl⟩,rfl,rfl⟩,SA,?_,by rw [hFA,←hRel.same]; exact hRel.ext,⟨by rw [hFA,←hRel.same]; exact hS,by rw [hFA,←hRel.same]; exact hBM⟩,by subst hρA; exact ⟨rfl,rfl⟩,by subst hρA; exact .inl rfl,prA 5 (by omega),⟨_,_,_,_,_,hV5,rfl⟩⟩,hSide.stays rfl (fun _ _ _ _=>rfl) rfl,honly,fun x h=>h,⟨E.rmk,rfl⟩,⟨hAsub,hFA⟩,fun a b o hab ho hc=>?_,fun a b hch hab hne=>?_⟩
    · have hg:=hRel.gid
      subst hρA
      exact ⟨fun g h=>.inl (hg.glob g h),hg.prog,hg.code,hg.alt,fun _ _ h=>h,hg.same,hg.size,hg.apart⟩
    · have hch : (a=V.heap.size+5∨∃ b o,ρ a b∧V.heap[a]?=some o∧o.isChan=true):=by
        rcases hAinv a b hab with h | ⟨i,hi,rfl,rfl⟩
        · exact .inr ⟨b,o,h,by rw [←hVold a b h]; exact ho,hc⟩
        · by_cases h5 : i=5
          · subst h5; exact .inl rfl
          · exfalso
            rw [hV7 _ (by omega) (by omega),callW_row V l 1000 i hi] at ho
            rcases i with - | - | - | - | - | - | - | i
            all_goals first | omega | (cases ho; cases hc)
      subst hρA
      exact hch
    · have hne : a≠V.heap.size+5:=hne
      have hch : (a=V.heap.size+5∨∃ b o,ρ a b∧V.heap[a]?=some o∧o.isChan=true):=by subst hρA; exact hch
      rcases hch with h | ⟨b2,o,h1,h2,h3⟩
      · exact absurd h hne
      · obtain rfl : b2=b:=ρA.fn _ _ _ (hAsub _ _ h1) hab
        obtain ⟨n1,s1,q1',tm1,rfl⟩:=hRel.quiet.2 a b2 o h1 h2 h3
        obtain ⟨o1,o2,e1,e2,e3⟩:=hRel.sim.obj a b2 h1
        rw [h2] at e1
        cases e1
        cases e3 with
        | @chan _ cap' _ b' _ cl' _ _ s' q' _ hb hcl=>
          have hb : RVs ρ #[] b':=hb.resolve_left (by rw [hRel.firm.1]; exact fun h=>by cases h)
          obtain rfl:=hcl.resolve_left (by rw [hRel.firm.2]; exact fun h=>by cases h)
          obtain rfl : b'=#[]:=Array.eq_empty_of_size_eq_zero (by rw [←hb.size]; rfl)
          exact ⟨_,_,_,_,_,_,_,(hVold a b2 h1).trans h2,(callW_old W _ 20 (hRel.sim.lt h1).2).trans e2⟩
  have hrinv : ∀ a b,((rRen hRel.sim hS).low Fr (own3 V.heap.size) (V.heap.size+5) true htr) a b→ρ a b∨∃ i,i < 7∧a=V.heap.size+i∧b=W.heap.size+i:=fun a b h=>h
  have hsinv : ∀ a b,((sRen hRel.sim hS).low Fs (fun _=>False) (V.heap.size+5) false hts) a b→ρ a b∨∃ i,(3≤i∧i < 7)∧a=V.heap.size+i∧b=W.heap.size+i:=fun a b h=>h
  have same : ∀ x y b,(ρ x b∨∃ i,i < 7∧x=V.heap.size+i∧b=W.heap.size+i)→(ρ y b∨∃ i,(3≤i∧i < 7)∧y=V.heap.size+i∧b=W.heap.size+i)→x=y∧¬own3 V.heap.size y:=fun x y b h1 h2=>by
    rcases h1 with h1 | ⟨i,hi,h1,h3⟩ <;> rcases h2 with h2 | ⟨j,hj,h2,h4⟩
    · have:=(hRel.sim.lt h2).1
      exact ⟨ρ.inj _ _ _ h1 h2,fun h=>by rcases h with h | h | h <;> omega⟩
    · have:=(hRel.sim.lt h1).2; omega
    · have:=(hRel.sim.lt h2).2; omega
    · exact ⟨by omega,fun h=>by rcases h with h | h | h <;> omega⟩
  have hpr : ((rRen hRel.sim hS).low Fr (own3 V.heap.size) (V.heap.size+5) true htr) (V.heap.size+6) (W.heap.size+6):=.inr ⟨6,by omega,rfl,rfl⟩
  have hDs' : Dem Tryz.prog.alt (phD (Ends Tryq.prog f0 R) Gf Fs Fr L V.heap.size W.heap.size k (fr :: cs,fr' :: cs') ρ.rel { frame:=Frame.enter Tryq.prog 69 #[lV l,.int .i64 pn] .normal,callers:=fr :: cs,status:=.running,dying:=none } V U).Ns (phD (Ends Tryq.prog f0 R) Gf Fs Fr L V.heap.size W.heap.size k (fr :: cs,fr' :: cs') ρ.rel { frame:=Frame.enter Tryq.prog 69 #[lV l,.int .i64 pn] .normal,callers:=fr :: cs,status:=.running,dying:=none } V U).Ts (sndH V.heap.size) Vs:=by rw [E.alt]; exact hDs
  have hDr' : Dem Tryz.prog.alt (phD (Ends Tryq.prog f0 R) Gf Fs Fr L V.heap.size W.heap.size k (fr :: cs,fr' :: cs') ρ.rel { frame:=Frame.enter Tryq.prog 69 #[lV l,.int .i64 pn] .normal,callers:=fr :: cs,status:=.running,dying:=none } V U).Nr (phD (Ends Tryq.prog f0 R) Gf Fs Fr L V.heap.size W.heap.size k (fr :: cs,fr' :: cs') ρ.rel { frame:=Frame.enter Tryq.prog 69 #[lV l,.int .i64 pn] .normal,callers:=fr :: cs,status:=.running,dying:=none } V U).Tr (G (pF2 V.heap.size l pn (V.heap.size+5)) [trap Tryq.prog]) Vr:=by rw [E.alt]; exact hDr
  refine open_ok O hDr' _ _ hDs' gs2 ((callW W { l with root:=r' } 20).at d) sl2 t2 q2 ρA _ _ _ _ L [] [] [] 20 0 0 false 14 2
    (.pre 12 RR (by rw [E.alt]; exact hDh) (by rw [E.alt]; exact hpath) ⟨⟨_,hpr,fun h=>?_⟩,?_⟩ (items_alone W.heap.size (W.heap.size+3) { l with root:=r' } pn (fr' :: cs') ((callW W { l with root:=r' } 20).at d) r' (callW_boxes W { l with root:=r' } 20).out))
    (.new (hSnd.stays rfl (fun _ _ _ _=>rfl) rfl) (fun v=>born_step W.heap.size v) rfl) ⟨_,callW_chan W { l with root:=r' } 20,rfl⟩ (by omega) rfl rfl ?_ ?_ hg0 hgk hL2 hP2
  · have h : V.heap.size+6=V.heap.size+5:=h
    omega
  · show W.heap.size+6≠W.heap.size+5
    omega
  · intro b x y hx hy
    obtain ⟨rfl,ho⟩:=same x y b (hrinv _ _ hx) (hsinv _ _ hy)
    by_cases h5 : x=V.heap.size+5
    · exact .inr ⟨h5,h5⟩
    · exact .inl ⟨⟨⟨b,hx⟩,ho,h5⟩,⟨b,hy⟩,(fun h=>h),h5⟩
  · have hko : ∀ i,¬U.Ko (W.heap.size+i):=fun i h=>by
      have:=U.lt _ h
      have:=hRel.out.1.1
      omega
    have hoff : ∀ a b,(ρ a b∨∃ i,i < 7∧a=V.heap.size+i∧b=W.heap.size+i)→¬U.Ko b:=fun a b h=>by
      rcases h with h | ⟨i,-,-,rfl⟩
      · exact hRel.out.2.1 a b h
      · exact hko i
    refine ⟨fun b x y hx hy=>?_,⟨⟨?_,?_,fun b hb=>?_⟩,⟨fun a b h=>hoff a b (hAinv a b h),fun a b h=>hAsub a b (hRel.out.2.2 a b h)⟩,⟨fun a b h=>hoff a b (hrinv a b h),fun a b h=>.inl (hRel.out.2.2 a b h)⟩,hko 5⟩,⟨fun a b h=>hoff a b ((hsinv a b h).imp id (fun ⟨i,h1,h2⟩=>⟨i,h1.2,h2⟩)),fun a b h=>.inl (hRel.out.2.2 a b h)⟩⟩
    · by_cases h5 : y=V.heap.size+5
      · exact .inr h5
      · exact .inl ⟨⟨b,hy⟩,(fun h=>h),h5⟩
    · have:=hRel.out.1.1
      show U.W0.heap.size≤(callW W { l with root:=r' } 20).heap.size
      rw [callW_size]
      omega
    · exact hRel.out.1.2.1
    · have h1:=U.lt b hb
      have h2:=hRel.out.1.1
      exact (callW_old W { l with root:=r' } 20 (by omega)).trans (hRel.out.1.2.2 b hb)
end
end Go.Proofs.YtnapepbdohidgaaGreatDoorQ
