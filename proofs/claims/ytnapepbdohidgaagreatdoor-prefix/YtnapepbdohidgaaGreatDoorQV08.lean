/- A part. -/
import Derived.Test.YtnapepbdohidgaaGreatDoorQV07
import Derived.KernelRfl
import Derived.RangeFuncNested
import Derived.OrdersIn
set_option maxHeartbeats 4000000
set_option maxRecDepth 100000
open Go renaming World->Wz,Value->Wq,Program->Wx,Frame->Wv,Addr->Ww
namespace Go.Proofs.Qw
section
open Go
theorem ii {v:Wq}(h:lA v=true)(ρ:Ren):RV ρ v v:=by
 cases v with
 |bool b=>exact .bool b
 |int k n=>exact .int k n
 |string s=>exact .string s
 |pointer a=>cases a with
  |none=>exact .pointer .none
  |some a=>cases h
 |slice a n c=>cases a with
  |none=>exact .slice n c .none
  |some a=>cases h
 |map r=>cases r with
  |none=>exact .map .none
  |some r=>cases h
 |chan r=>cases r with
  |none=>exact .chan .none
  |some r=>cases h
 |nilFunc=>exact .nilFunc
 |nilIface=>exact .nilIface
 |_=>cases h
theorem mh {c:Array Wq}{p:Wq->Bool}(h:c.all p=true){ρ:Ren}(hp:∀v,p v=true->RV ρ v v):RVs ρ c c:=⟨rfl,fun i v v' h1 h2=>by
 rw [h1] at h2;cases h2;obtain ⟨hi,rfl⟩:=eS h1;exact hp _ (Array.all_eq_true.1 h i hi)⟩
theorem i6 {v:Wq}(h:mu v=true)(ρ:Ren):RV ρ v v:=by
 unfold mu at h;split at h
 .exact .agg rfl (mh h (fun v h=>ii h ρ)).at_
 .exact .tuple rfl (mh h (fun v h=>ii h ρ)).at_
 .exact .iface _ (ii h ρ)
 .exact ii h ρ
def BA:Wq->Bool
 | .agg c=>c.all mu
 | .tuple c=>c.all mu
 |v=>mu v
theorem wQ {v:Wq}(h:BA v=true)(ρ:Ren):RV ρ v v:=by
 unfold BA at h;split at h
 .exact .agg rfl (mh h (fun v h=>i6 h ρ)).at_
 .exact .tuple rfl (mh h (fun v h=>i6 h ρ)).at_
 .exact i6 h ρ
theorem oq {ρ:Ren}{z:Wq}(h:RV ρ z z):RVs ρ z.cells z.cells:=by
 have one:RVs ρ #[z] #[z]:=⟨rfl,fun i v v' h1 h2=>by
  rw [h1] at h2;cases h2;cases i with
  |zero=>simp at h1;subst h1;exact h
  |succ i=>simp at h1⟩
 cases z with
 |agg c=>
  cases h with
  |agg hc hx=>exact ⟨rfl,hx⟩
 |_=>exact one
theorem RVs.append' {ρ:Ren}{a a' b b':Array Wq}(h:RVs ρ a a')(k:RVs ρ b b'):RVs ρ (a++b) (a'++b'):=⟨by simp [h.size,k.size],fun i v v' h1 h2=>by
 rw [Array.getElem?_append] at h1 h2;by_cases hi:i<a.size
 .rw [if_pos hi] at h1;rw [if_pos (by rw [<-h.size];exact hi)] at h2;exact h.at_ i v v' h1 h2
 .rw [if_neg hi] at h1;rw [if_neg (by rw [<-h.size];exact hi),<-h.size] at h2;exact k.at_ _ v v' h1 h2⟩
def Zi (i:TypeInfo):Prop:=∀z,i.zero=some z->∀ρ,RV ρ z z
theorem yY {ρ:Ren}{c:Array Wq}(h:RVs ρ c c)(n:Nat):RVs ρ (Array.replicate n c).flatten (Array.replicate n c).flatten:=by
 induction n with
 |zero=>simp;exact RVs.nil
 |succ n ih=>
  rw [Array.replicate_succ,Array.flatten_push];exact ih.append' h
theorem yZ {α β:Type}(body:α->β->Option (ForInStep β))(I:β->Prop)(hb:∀a b s,I b->body a b=some s->I (match s with| .done x=>x| .yield x=>x)):∀ (l:List α)(b r:β),I b->forIn l b body=some r->I r:=by
 intro l;induction l with
 |nil=>intro b r hI h;simp at h;subst h;exact hI
 |cons a l ih=>
  intro b r hI h;rw [List.forIn_cons] at h;cases hx:body a b with
  |none=>rw [hx] at h;cases h
  |some s=>
   rw [hx] at h;have:=hb a b s hI hx;cases s with
   |done x=>cases h;exact this
   |yield x=>exact ih x r this h
theorem j8 {d:TypeDesc}{str:String}{z:Wq}{c:Bool}{b:Nat}(h:lA z=true):Zi (Made.word d str z c b):=fun y hy ρ=>by
 cases hy;exact ii h ρ
theorem za {info:TypeId->Option TypeInfo}(hi:∀t i,info t=some i->Zi i){fs:Array Field}{i:TypeInfo}(h:Made.reckonStruct info fs=some i):Zi i:=by
 unfold Made.reckonStruct at h;dsimp only at h;rw [<-Array.forIn_toList] at h;rw [Option.bind_eq_bind,Option.bind_eq_some_iff] at h;obtain ⟨r,hr,h⟩:=h;have key:=yZ _ (fun r=>∀a,r.2.2.2.2.2.2.2.1=some a->∀ρ,RVs ρ a a) (fun f b s hI hs=>by
  rw [Option.bind_eq_bind,Option.bind_eq_some_iff] at hs;obtain ⟨i,hf,hs⟩:=hs;have hz:∀a,(if b.2.1+i.size > Made.mostCells then none else (b.2.2.2.2.2.2.2.1.bind fun x=>i.zero.bind fun y=>some (x++y.cells)))=some a->∀ρ,RVs ρ a a:=fun a ha ρ=>by
   split at ha
   .cases ha
   .rw [Option.bind_eq_some_iff] at ha;obtain ⟨x,hx,ha⟩:=ha;rw [Option.bind_eq_some_iff] at ha;obtain ⟨y,hy,ha⟩:=ha;cases ha;exact (hI x hx ρ).append' (oq (hi _ _ hf y hy ρ))
  simp only [Option.bind_eq_bind,Option.pure_def,Option.bind_none,Option.bind_some] at hs;generalize (if b.2.1+i.size > Made.mostCells then none else (b.2.2.2.2.2.2.2.1.bind fun x=>i.zero.bind fun y=>some (x++y.cells)))=zx at hs hz
  generalize (if b.fst.size + 1 < fs.size then ";" else "") = sm at hs
  split at hs
  .cases hs
  .split at hs
   .cases hs
   .split at hs
    .split at hs<;>(cases hs;exact hz)
    .rw [Option.bind_eq_some_iff] at hs;obtain ⟨tg,-,hs⟩:=hs;split at hs<;>(cases hs;exact hz)) _ _ r (fun a ha ρ=>by cases ha;exact RVs.nil) hr
 intro z hz ρ;have fin:∀ (o:Option (Array Wq)),(∀a,o=some a->∀ρ,RVs ρ a a)->o.map Value.agg=some z->RV ρ z z:=fun o ho h=>by
  cases o with
  |none=>cases h
  |some a=>cases h;exact .agg rfl (ho a rfl ρ).at_
 split at h
 .cases h;exact fin _ key hz
 .cases h;exact fin _ key hz
theorem zb {info:TypeId->Option TypeInfo}(hi:∀t i,info t=some i->Zi i){d:TypeDesc}{i:TypeInfo}(h:Made.reckon info d=some i):Zi i:=by
 unfold Made.reckon at h;cases d with
 |struct fs=>exact za hi h
 |array n e=>
  simp only [Option.bind_eq_bind,Option.pure_def,Option.bind_eq_some_iff] at h;obtain ⟨j,hj,s,-,h⟩:=h;cases h;intro z hz ρ;simp only at hz;split at hz
  .cases hz
  .split at hz
   .cases hz;exact .agg rfl RVs.nil.at_
   .cases hx:j.zero with
    |none=>rw [hx] at hz;cases hz
    |some y=>
     rw [hx] at hz;cases hz;exact .agg rfl (yY (oq (hi _ _ hj y hx ρ)) n).at_
 |pointer e=>
  simp only [Option.bind_eq_bind,Option.pure_def,Option.bind_eq_some_iff] at h;obtain ⟨j,hj,h⟩:=h;split at h
  .cases h
  .split at h
   .cases h
   .rw [Option.bind_eq_some_iff] at h;obtain ⟨s,-,h⟩:=h;cases h;exact j8 rfl
  .rw [Option.bind_eq_some_iff] at h;obtain ⟨s,-,h⟩:=h;cases h;exact j8 rfl
 |slice e=>
  simp only [Option.bind_eq_bind,Option.pure_def,Option.bind_eq_some_iff] at h;obtain ⟨j,hj,s,-,h⟩:=h;cases h;exact j8 rfl
 |map k e=>
  simp only [Option.bind_eq_bind,Option.pure_def,Option.bind_eq_some_iff] at h;obtain ⟨j,hj,s,-,j2,-,s2,-,h⟩:=h;cases h;exact j8 rfl
 |chan dir e=>
  simp only [Option.bind_eq_bind,Option.pure_def,Option.bind_eq_some_iff] at h;obtain ⟨j,hj,s,-,h⟩:=h;cases h;exact j8 rfl
 |func ps rs v=>
  simp only [Option.bind_eq_bind,Option.pure_def,Option.bind_eq_some_iff] at h;obtain ⟨s,-,h⟩:=h;cases h;exact j8 rfl
 |_=>cases h
theorem DI {P:Wx}(h:∀ (t:Nat)(i:TypeInfo)(z:Wq),P.types[t]?=some i->i.zero=some z->BA z=true):bu P:=by
 have ht:∀ (t:Nat) (i:TypeInfo),P.types[t]?=some i->Zi i:=fun t i hi z hz ρ=>wQ (h t i z hi hz) ρ
 have hm:∀f t i,Made.infoAt P.toTables f t=some i->Zi i:=fun f=>by
  induction f with
  |zero=>intro t i h;cases h
  |succ f ih=>
   intro t i h;unfold Made.infoAt at h;split at h
   .exact ht t i h
   .rw [Option.bind_eq_some_iff] at h;obtain ⟨d,-,h⟩:=h;exact zb (fun t i h=>ih t i h) h
 intro t i z hi hz ρ;unfold Tables.info? at hi;split at hi
 .exact ht t i hi z hz ρ
 .exact hm _ t i hi z hz ρ
def rg (a b f:Nat):Bool:=Nat.ble a f&&Nat.ble f b
def Gs (f:Nat):Bool:=rg 3 68 f||rg 70 96 f||rg 98 118 f||rg 121 137 f||rg 141 154 f||rg 158 164 f||rg 167 171 f||rg 176 179 f||rg 182 183 f||f==1000000||f==1000001||f==2000069
def Ss (f:Nat):Bool:=f==64||f==91||f==101||f==111||f==116||rg 119 120 f||rg 122 123 f||rg 133 135 f||rg 138 140 f||f==153||rg 155 157 f||rg 165 166 f||rg 172 175 f||rg 180 181 f||f==1000002
def Rs (f:Nat):Bool:=f==98||f==121||f==141||f==151||f==158||rg 167 170 f||rg 176 179 f||rg 182 183 f||f==1000001
def As (f:Nat):Bool:=rg 3 183 f||rg 1000000 1000003 f
def BB (P:Wx)(F:FuncId->Bool):Bool:=(List.range 206).all fun f=>!F f||(match P.funcs[f]? with|some fn=>(match fn.body with|some b=>az P F b|none=>f==136||f==173||f==180)|none=>true)
theorem fN {P:Wx}{F:FuncId->Bool}(h:BB P F=true)(hs:P.funcs.size=206):∀ (f:FuncId) fn b,F f=true->P.funcs[f]?=some fn->fn.body=some b->az P F b=true:=fun f fn b hF hf hb=>by
 have hlt:f<206:=by rw [<-hs];exact (eS hf).1
 have:=List.all_eq_true.1 h f (List.mem_range.2 hlt);rw [hF,hf] at this;simp only [hb] at this;simpa using this
theorem zc {P:Wx}{F:FuncId->Bool}(h:BB P F=true)(hs:P.funcs.size=206):∀ (f:FuncId) fn,F f=true->P.funcs[f]?=some fn->fn.body=none->f=136\/f=173\/f=180:=fun f fn hF hf hb=>by
 have hlt:f<206:=by rw [<-hs];exact (eS hf).1
 have:=List.all_eq_true.1 h f (List.mem_range.2 hlt);rw [hF,hf] at this;simp only [hb] at this;have:=this;simp at this;rcases this with (h|h)|h
 .exact .inl h
 .exact .inr (.inl h)
 .exact .inr (.inr h)
theorem m7:Tryz.prog.funcs.size=206:=by kernel_rfl
theorem m8:Yq.prog.funcs.size=206:=by kernel_rfl
theorem Fc:BB Tryz.prog Gs=true:=by kernel_rfl
theorem Fd:BB Tryz.prog Ss=true:=by kernel_rfl
theorem Fe:BB Tryz.prog Rs=true:=by kernel_rfl
theorem CZ:BB Yq.prog Ss=true:=by kernel_rfl
theorem C0:BB Yq.prog Rs=true:=by kernel_rfl
theorem C3:BB Yq.prog As=true:=by kernel_rfl
theorem FQ:az Tryz.prog Gs (ce (ge bB))=true/\az Tryz.prog Gs (ce bB)=true:=⟨by kernel_rfl,by kernel_rfl⟩
theorem FR:az Tryz.prog Rs (ce (ge bB))=true/\az Tryz.prog Rs (ce bB)=true:=⟨by kernel_rfl,by kernel_rfl⟩
theorem FS:az Yq.prog Rs (ce (ge bB))=true/\az Yq.prog Rs (ce bB)=true:=⟨by kernel_rfl,by kernel_rfl⟩
theorem Ff:az Tryz.prog Rs (bi Tryz.f69)=false:=by kernel_rfl
def Ge (P:Wx):Bool:=P.types.all fun i=>match i.zero with|some z=>BA z|none=>true
theorem m9 {P:Wx}(h:Ge P=true):bu P:=DI fun t i z hi hz=>by
 obtain ⟨ht,rfl⟩:=eS hi;have:=Array.all_eq_true.1 h t ht;simp only [hz] at this;exact this
theorem Fg:bu Tryz.prog:=m9 (by kernel_rfl)
theorem Fh:bu Yq.prog:=m9 (by kernel_rfl)
theorem kX {P : Wx} (h : (P.funcs.all fun f => !(f.name == "runtime.NumGoroutine")) = true) : bG P := fun f fn hf e => by
 obtain ⟨ht,rfl⟩:=eS hf;have:=Array.all_eq_true.1 h f ht;rw [e] at this;cases this
theorem DJ:bG Tryz.prog:=kX (by kernel_rfl)
theorem DK:bG Yq.prog:=kX (by kernel_rfl)
section
variable {P:Wx} [Two P] {ρ:Ren}
theorem zd:∀ (n:Nat){ρ:Ren}{a a':Ww}(acc:ByteArray),RA ρ a a'->RS P QE ρ (Extern.Bytes.loadBytes a n acc) (Extern.Bytes.loadBytes a' n acc):=by
 intro n;induction n with
 |zero=>intro ρ a a' acc _;exact aa rfl
 |succ n ih=>
  intro ρ a a' acc h;unfold Extern.Bytes.loadBytes;refine ag (mB h _) (fun ρ1 l1 v v' hv=>?_);cases hv with
  |int k b=>cases k<;>first|exact ac _|exact ih _ ((h.mono l1).add 1)
  |_=>exact ac _
theorem j9 {v v':Wq}(h:RV ρ v v'):RS P QE ρ (Extern.Bytes.bytesOf v) (Extern.Bytes.bytesOf v'):=by
 cases h with
 |string s=>exact aa rfl
 |slice n c ha=>
  cases ha with
  |none=>exact aa rfl
  |some ha=>exact zd n _ ha
 |_=>exact ac _
theorem ze {v v':Wq}(h:RV ρ v v'):RS P QE ρ (Extern.Bytes.asByte v) (Extern.Bytes.asByte v'):=by
 cases h with
 |int k n=>cases k<;>first|exact ac _|exact aa rfl
 |_=>exact ac _
theorem zf {Q:Ren->Wq->Wq->Prop}{g:Array Wq->Sem Wq}(h:∀x x' y y',RV ρ x x'->RV ρ y y'->RS P Q ρ (g #[x,y]) (g #[x',y']))(hn:∀a:Array Wq,a.size≠2->cH P (g a)){a a':Array Wq}(hr:RVs ρ a a'):RS P Q ρ (g a) (g a'):=by
 by_cases hs:a.size=2
 .obtain ⟨l⟩:=a;obtain ⟨l'⟩:=a';have hl:l.length=l'.length:=by simpa using hr.size
  rcases l with - |⟨x,- |⟨y,- |⟨z,l⟩⟩⟩<;>simp at hs
  rcases l' with - |⟨x',- |⟨y',- |⟨z',l'⟩⟩⟩<;>simp at hl
  exact h x x' y y' (hr.at_ 0 x x' rfl rfl) (hr.at_ 1 y y' rfl rfl)
 .exact .lost (hn a hs) _
theorem rf {a a':Array Wq}(hr:RVs ρ a a'):RS P QV ρ (Extern.BytealgIndexByte.indexByte a) (Extern.BytealgIndexByte.indexByte a'):=by
 refine zf (fun x x' y y' hx hy=>?_) (fun a ha=>?_) hr
 .unfold Extern.BytealgIndexByte.indexByte;refine ae (j9 hx) (fun ρ1 l1 b=>?_);refine ae (ze (hy.mono l1)) (fun ρ2 l2 c=>?_);split<;>exact aa (.int _ _)
 .obtain ⟨l⟩:=a;rcases l with - |⟨x,- |⟨y,- |⟨z,l⟩⟩⟩
  .exact .halt rfl
  .exact .halt rfl
  .simp at ha
  .exact .halt rfl
theorem pw (hI:GId P ρ)(name:String):RS P QA ρ (globalAddr name) (globalAddr name):=by
 unfold globalAddr;refine aT ?_ rfl;cases h:P.globals.findIdx? (·.name==name) with
 |none=>exact ac _
 |some g=>
  refine aa ⟨hI.glob g ?_,rfl,rfl⟩;exact (Array.findIdx?_eq_some_iff_getElem.1 h).1
theorem zg (hI:GId P ρ):RS P QE ρ Extern.BytealgIndex.maxLen Extern.BytealgIndex.maxLen:=by
 unfold Extern.BytealgIndex.maxLen;refine ag (pw hI _) (fun ρ1 l1 a a' h=>?_);refine ag (mB h _) (fun ρ2 l2 v v' hv=>fe hv)
theorem zh (hI:GId P ρ){a a':Array Wq}(hr:RVs ρ a a'):RS P QV ρ (Extern.BytealgIndex.index a) (Extern.BytealgIndex.index a'):=by
 refine zf (fun x x' y y' hx hy=>?_) (fun a ha=>?_) hr
 .unfold Extern.BytealgIndex.index;refine ae (j9 hx) (fun ρ1 l1 b=>?_);refine ae (j9 (hy.mono l1)) (fun ρ2 l2 c=>?_);refine ae (zg ((hI.mono l1).mono l2)) (fun ρ3 l3 m=>?_);refine av (fun _=>aO (ah _)) (fun _=>?_);refine av (fun _=>aO (ah _)) (fun _=>?_);split<;>exact aa (.int _ _)
 .obtain ⟨l⟩:=a;rcases l with - |⟨x,- |⟨y,- |⟨z,l⟩⟩⟩
  .exact .halt rfl
  .exact .halt rfl
  .simp at ha
  .exact .halt rfl
theorem jC (hB:ρ.F kM=true){a a':Ww}(h:RA ρ a a'):RS P QE ρ (frozen a) (frozen a'):=.frozen h (fun s=>aa rfl) (fun e=>by rw [hB] at e;cases e)
theorem kY (hB:ρ.F kM=true){a a':Ww}(h:RA ρ a a'):RS P QE ρ (stringish a) (stringish a'):=by
 unfold stringish;refine ae (jC hB h) (fun ρ0 l0 z=>?_);refine av (fun _=>aa rfl) (fun _=>?_);refine ae (ep (l0 _ _ h.1)) (fun ρ1 l1 s=>?_);rcases s with - |⟨e,n⟩
 .exact aa rfl
 .exact jC (by rw [l1.F,l0.F];exact hB) ⟨l1 _ _ (l0 _ _ h.1),rfl,rfl⟩
theorem tK (hB:ρ.F kM=true){a a' b b':Ww}(ha:RA ρ a a')(hb:RA ρ b b'):RS P QE ρ (mayBeOne a b) (mayBeOne a' b'):=by
 unfold mayBeOne;refine ae (kY hB ha) (fun ρ1 l1 x=>?_);refine ae (kY (by rw [l1.F];exact hB) (hb.mono l1)) (fun ρ2 l2 y=>?_);refine ae (ae (ep (l2 _ _ (l1 _ _ ha.1))) (fun ρ3 l3 s=>aa rfl)) (fun ρ3 l3 u=>?_);refine ae (ae (ep (l3 _ _ (l2 _ _ (l1 _ _ hb.1)))) (fun ρ4 l4 s=>aa rfl)) (fun ρ4 l4 v=>?_);exact aa rfl
theorem tM (hB:ρ.F kM=true)(ps rs:Array TypeId){a a':Array Wq}(hr:RVs ρ a a'):RS P QV ρ (Extern.SlicesOverlaps.overlaps ps rs a) (Extern.SlicesOverlaps.overlaps ps rs a'):=by
 refine zf (g:=Extern.SlicesOverlaps.overlaps ps rs) (fun x x' y y' hx hy=>?_) (fun a ha=>?_) hr
 .cases hx with
  | @slice a a' la ca hxa=>
   cases hy with
   | @slice b b' lb cb hyb=>
    unfold Extern.SlicesOverlaps.overlaps;cases hp:ps[0]? with
    |none=>exact ac _
    |some t=>
     refine ae (ao t) (fun ρ1 l1 d=>?_);cases d with
     |slice el=>
      refine ae (aZ el) (fun ρ2 l2 sz=>?_);cases hxa with
      |none=>exact aa (.bool _)
      | @some a a' ha=>
       cases hyb with
       |none=>exact aa (.bool _)
       | @some b b' hb=>
        have l12:=Ren.le_trans l1 l2;refine av (fun _=>aa (.bool _)) (fun _=>?_);refine ae (jC (by rw [l12.F];exact hB) (ha.mono l12)) (fun ρ3 l3 fa=>?_);refine ae (jC (by rw [l3.F,l12.F];exact hB) ((hb.mono l12).mono l3)) (fun ρ4 l4 fb=>?_);have l04:=Ren.le_trans (Ren.le_trans l12 l3) l4;have hA:=ha.mono l04;have hBb:=hb.mono l04;have hne:(a.block != b.block)=(a'.block != b'.block):=by
         have:=fK hA.1 hBb.1;simp only [bne,this]
        have heq:(a.block==b.block)=(a'.block==b'.block):=fK hA.1 hBb.1;have hB4:ρ4.F kM=true:=by rw [l04.F];exact hB
        rw [<-hne,<-ha.2.1,<-hb.2.1,<-heq];refine av (fun _=>ah _) (fun _=>?_);refine av (fun _=>?_) (fun _=>aa (.bool _));refine ag (mG hA) (fun ρ5 l5 _ _ _=>?_);refine ag (mG (hBb.mono l5)) (fun ρ6 l6 _ _ _=>?_);refine ae (tK (by rw [l6.F,l5.F];exact hB4) ((hA.mono l5).mono l6) ((hBb.mono l5).mono l6)) (fun ρ7 l7 m=>?_);refine av (fun _=>?_) (fun _=>aa (.bool _));exact ae (cI _) (fun ρ8 l8 n=>aa (.bool _))
     |_=>exact ac _
   |_=>exact ac _
  |_=>exact ac _
 .obtain ⟨l⟩:=a;rcases l with - |⟨x,- |⟨y,- |⟨z,l⟩⟩⟩
  .exact .halt rfl
  .exact .halt rfl
  .simp at ha
  .exact .halt rfl
end
theorem BC {P : Wx} [Two P] {F : FuncId → Bool} (hx : ∀ f fn, F f = true → P.funcs[f]? = some fn → fn.body = none → fn.name ≠ "runtime.NumGoroutine" ∧ Extern.findNext fn = none ∧ ∃ e, Extern.find fn = some e ∧ ∀ ρ a a', ρ.F = F → GId P ρ → RVs ρ a a' → RS P QV ρ (e a) (e a')) : fy P F := by
 intro f fn hF hf hb ρ a a' hFF hI h;obtain ⟨h1,h2,e,h3,h4⟩:=hx f fn hF hf hb
 have hn : (fn.name == "runtime.NumGoroutine") = false := beq_eq_false_iff_ne.2 h1
 unfold callFunc;refine aT ?_ (by simp only [hI.alt f (by rw [hFF];exact hF)]);simp only [hf,hn,hb,Option.isNone_none,if_true,h2,h3];exact .mark (.extern f) (bK (h4 ρ a a' hFF hI h))
@[reducible] noncomputable def wR:Two Tryz.prog:=⟨Yq.prog.funcs⟩
@[reducible] noncomputable def wS:Two Yq.prog:=⟨Yq.prog.funcs⟩
theorem Fi {P:Wx}{p q:FuncId}{a b:Func}:@Program.alt P ⟨(Sw.prog P p q a b).funcs⟩=Sw.prog P p q a b:=rfl
theorem DL {P:Wx}:@Program.alt P ⟨P.funcs⟩=P:=rfl
theorem na:@Program.alt Tryz.prog wR=Yq.prog:=Fi
theorem px:@Program.alt Yq.prog wS=Yq.prog:=DL
theorem DM:Extern.findNext Tryz.f136=none:=by kernel_rfl
theorem DN:Extern.findNext Tryz.f173=none:=by kernel_rfl
theorem DO:Extern.findNext Tryz.f180=none:=by kernel_rfl
theorem DP:Extern.find Tryz.f136=some (Extern.SlicesOverlaps.overlaps Tryz.f136.params Tryz.f136.resultTypes):=by kernel_rfl
theorem DQ:Extern.find Tryz.f173=some Extern.BytealgIndex.index:=by kernel_rfl
theorem DR:Extern.find Tryz.f180=some Extern.BytealgIndexByte.indexByte:=by kernel_rfl
theorem ot {P:Wx} [Two P]{F:FuncId->Bool}(hs:P.funcs.size=206)(hc:BB P F=true)(h136:P.funcs[136]?=some Tryz.f136)(h173:P.funcs[173]?=some Tryz.f173)(h180:P.funcs[180]?=some Tryz.f180)(hB:F 136=true->F kM=true):fy P F:=
 BC fun f fn hF hf hb=>by
  rcases zc hc hs f fn hF hf hb with rfl|rfl|rfl
  .rw [h136] at hf;cases hf;exact ⟨by decide,DM,_,DP,fun ρ a a' hFF hI h=>tM (by rw [hFF];exact hB hF) _ _ h⟩
  .rw [h173] at hf;cases hf;exact ⟨by decide,DN,_,DQ,fun ρ a a' hFF hI h=>zh hI h⟩
  .rw [h180] at hf;cases hf;exact ⟨by decide,DO,_,DR,fun ρ a a' hFF hI h=>rf h⟩
theorem uY {f:Nat}(h1:69≠f)(h2:97≠f):Yq.prog.funcs[f]?=Tryz.prog.funcs[f]?:=Sw.ne h1 h2 rfl
theorem size_eq:Yq.prog.funcs.size=Tryz.prog.funcs.size:=m8.trans m7.symm
theorem py (f:Nat):(Yq.prog.funcs[f]?).map strip=(Tryz.prog.funcs[f]?).map strip:=by
 by_cases h1:69=f
 .subst h1;rw [Yq.func69,Tryz.func69];rfl
 .by_cases h2:97=f
  .subst h2;rw [Yq.func97,Tryz.func97];rfl
  .rw [uY h1 h2]
theorem F7 {f:Nat}(h:Mk Gs f=true):f=69:=by
 have h:Gs (2000000+f)=true:=h;unfold Gs rg at h;simp only [Bool.or_eq_true,bT,Nat.ble_eq,beq_iff_eq] at h;omega
theorem FT (f:Nat):¬Mk Ss f=true:=fun h=>by
 have h:Ss (2000000+f)=true:=h;unfold Ss rg at h;simp only [Bool.or_eq_true,bT,Nat.ble_eq,beq_iff_eq] at h;omega
theorem FU (f:Nat):¬Mk Rs f=true:=fun h=>by
 have h:Rs (2000000+f)=true:=h;unfold Rs rg at h;simp only [Bool.or_eq_true,bT,Nat.ble_eq,beq_iff_eq] at h;omega
theorem F8 (f:Nat):¬Mk As f=true:=fun h=>by
 have h:As (2000000+f)=true:=h;unfold As rg at h;simp only [Bool.or_eq_true,bT,Nat.ble_eq] at h;omega
theorem DS {F:FuncId->Bool}(h1:F 69=false)(h2:F 97=false){f:Nat}(h:F f=true):Yq.prog.funcs[f]?=Tryz.prog.funcs[f]?:=
 uY (fun e=>by subst e;rw [h1] at h;cases h) (fun e=>by subst e;rw [h2] at h;cases h)
theorem Fj:@fM Tryz.prog wR Gs:=
 @fM.mk Tryz.prog wR Gs (fN Fc m7) (fun f h=>by rw [na];exact DS (by decide) (by decide) h) (fun f=>by rw [na];exact py f) (by rw [na];exact size_eq) (fun f h=>by
  obtain rfl:=F7 h;rw [na];exact ⟨_,_,Yq.func69,Tryz.func69,rfl,rfl,rfl⟩) (@ot Tryz.prog wR Gs m7 Fc Tryz.func136 Tryz.func173 Tryz.func180 (fun _=>by decide))
theorem Fk:@fM Tryz.prog wR Ss:=
 @fM.mk Tryz.prog wR Ss (fN Fd m7) (fun f h=>by rw [na];exact DS (by decide) (by decide) h) (fun f=>by rw [na];exact py f) (by rw [na];exact size_eq) (fun f h=>absurd h (FT f)) (@ot Tryz.prog wR Ss m7 Fd Tryz.func136 Tryz.func173 Tryz.func180 (fun h=>absurd h (by decide)))
theorem Fm:@fM Tryz.prog wR Rs:=
 @fM.mk Tryz.prog wR Rs (fN Fe m7) (fun f h=>by rw [na];exact DS (by decide) (by decide) h) (fun f=>by rw [na];exact py f) (by rw [na];exact size_eq) (fun f h=>absurd h (FU f)) (@ot Tryz.prog wR Rs m7 Fe Tryz.func136 Tryz.func173 Tryz.func180 (fun h=>absurd h (by decide)))
theorem DT:@fM Yq.prog wS Ss:=
 @fM.mk Yq.prog wS Ss (fN CZ m8) (fun _ _=>by rw [px]) (fun _=>by rw [px]) (by rw [px]) (fun f h=>absurd h (FT f)) (@ot Yq.prog wS Ss m8 CZ (Yq.nq Tryz.func136) (Yq.nq Tryz.func173) (Yq.nq Tryz.func180) (fun h=>absurd h (by decide)))
theorem DU:@fM Yq.prog wS Rs:=
 @fM.mk Yq.prog wS Rs (fN C0 m8) (fun _ _=>by rw [px]) (fun _=>by rw [px]) (by rw [px]) (fun f h=>absurd h (FU f)) (@ot Yq.prog wS Rs m8 C0 (Yq.nq Tryz.func136) (Yq.nq Tryz.func173) (Yq.nq Tryz.func180) (fun h=>absurd h (by decide)))
theorem DV:@fM Yq.prog wS As:=
 @fM.mk Yq.prog wS As (fN C3 m8) (fun _ _=>by rw [px]) (fun _=>by rw [px]) (by rw [px]) (fun f h=>absurd h (F8 f)) (@ot Yq.prog wS As m8 C3 (Yq.nq Tryz.func136) (Yq.nq Tryz.func173) (Yq.nq Tryz.func180) (fun _=>by decide))
theorem env:@pu wR wS Gs Ss Rs:=
 @pu.mk wR wS Gs Ss Rs na Fg Fh DJ DK Fk Fm DT DU (fun _f h=>F7 h) ⟨rfl,rfl,rfl⟩ FT rfl ⟨rfl,rfl,rfl⟩ FU FQ FR FS Ff
end
section
open Go
open Go.Conc Go.ConcX Go.ConcX.Gen Go.RowKit
def wf (ro:Option Nat):Fence:={Fence.wide with round:=ro}
theorem FV {ro:Option Nat}{P:Wx}(m:Machine):m.fenced P (wf ro):=fenced_wide P m
theorem pz {ro:Option Nat}{P:Wx}{m m':Machine}:StepsIn (Machine.fenced P (wf ro)) P m m'↔Steps P m m':=
 ⟨StepsIn.steps,fun h=>(StepsIn.of_steps h).mono fun m _=>FV m⟩
theorem DW (ro:Option Nat)(k:Nat):(wf ro).room k:=fun _ h=>by cases h
section
variable {P:Wx} {ops:Array Oper} {ro:Option Nat}
def wT (P:Wx)(ops:Array Oper)(ro:Option Nat)(i:Nat)(a:Act)(w:Wz)(K:Act->Wz->Prop):Prop:=
 ∀ (b:Wv) (k:List Item) (cs:List Wv) (rest:List Nat),b.roundOf=ro ->
  ∃a' w',K a' w'/\Steps P (lone (b.atR a (.inRegion ops (i::rest)::k)) cs w) (lone (b.atR a' (.inRegion ops rest::k)) cs w')
def wU (P:Wx)(ops:Array Oper)(ro:Option Nat)(K:Act->Wz->Prop):List Nat->Act->Wz->Prop
 | [],a,w=>K a w
 |i::r,a,w=>wT P ops ro i a w (wU P ops ro K r)
theorem wT.mono {i:Nat}{a:Act}{w:Wz}{K K':Act->Wz->Prop}(h:wT P ops ro i a w K)(hk:∀a w,K a w->K' a w):wT P ops ro i a w K':=
 fun b k cs rest hb=>let ⟨a',w',h1,h2⟩:=h b k cs rest hb;⟨a',w',hk _ _ h1,h2⟩
theorem i7 {K:Act->Wz->Prop}{b:Wv}{k:List Item}{cs:List Wv}(hb:b.roundOf=ro):∀ (l:List Nat)(a:Act)(w:Wz),wU P ops ro K l a w ->
  ∃a' w',K a' w'/\Steps P (lone (b.atR a (.inRegion ops l::k)) cs w) (lone (b.atR a' k) cs w')
 | [],a,w,h=>⟨a,w,h,.one stepR_region_end⟩
 |i::r,a,w,h=>by
  obtain ⟨a1,w1,h1,s1⟩:=h b k cs r hb;obtain ⟨a2,w2,h2,s2⟩:=i7 hb r a1 w1 h1;exact ⟨a2,w2,h2,s1.trans s2⟩
theorem zi {id n:Nat}{Q:Exit->Act->Wz->Prop}{a:Act}{w:Wz}(h:wU P ops ro (Q .normal) (List.range ops.size) a w):(Code.region id ops false).wpIn (wf ro) n P Q a w:=by
 intro b k cs hb _ _;obtain ⟨a',w',h1,h2⟩:=i7 (b:=b) (k:=k) (cs:=cs) hb _ _ _ h;exact ⟨.normal,a',w',h1,pz.2 (.head stepR_region h2)⟩
theorem am {i:Nat}{o:Oper}{a:Act}{w w':Wz}{v:Wq}{K:Act->Wz->Prop}(ho:ops[i]?=some o)(hw:Region.wanted o (yielded ops a.tmps)=true)(hd:∀c,o.op≠.defer c)(hr:(execOp a.eval o).run P w=.ok (.value v) w')(hK:K (a.put o.dst v) w'):wT P ops ro i a w K:=by
 intro b k cs rest hb;refine ⟨_,_,hK,.one ?_⟩;have hg:=stepGR_op (P:=P) (b:=b) (k:=k) (cs:=cs) (w:=w) (rest:=rest) ho hw;rw [Oper.semAt_eq _ _ _ hd] at hg;have hfin:(b.atR a (.inRegion ops (i::rest)::k)).finish v=b.atR (a.put o.dst v) (.inRegion ops rest::k):=by rw [Frame.finish_atR,ho];rfl
 exact step_lone_go (by rw [hg,<-hfin];simp [stepG.apply,hr])
theorem ij {i:Nat}{o:Oper}{a:Act}{w w':Wz}{f:FuncId}{args:Array Wq}{K:Act->Wz->Prop}(ho:ops[i]?=some o)(hw:Region.wanted o (yielded ops a.tmps)=true)(hd:∀c,o.op≠.defer c)(hr:(execOp a.eval o).run P w=.ok (.enter f args) w')
  (hC:Calls P f args w' fun e w''=>∃v,e=.returned v/\K (a.put o.dst v) w''):wT P ops ro i a w K:=by
 intro b k cs rest hb;obtain ⟨e,w2,fr,⟨v,rfl,hK⟩,hs,-,hl⟩:=hC (b.atR a (.inRegion ops (i::rest)::k)::cs);have hs:Steps P _ _:=hs;refine ⟨_,_,hK,?_⟩;have hg:=stepGR_op (P:=P) (b:=b) (k:=k) (cs:=cs) (w:=w) (rest:=rest) ho hw;rw [Oper.semAt_eq _ _ _ hd] at hg;have henter:step P (lone (b.atR a (.inRegion ops (i::rest)::k)) cs w)=.next (lone (Frame.enter P f args .normal) (b.atR a (.inRegion ops (i::rest)::k)::cs) w'):=
  step_lone_go (by rw [hg];simp [stepG.apply,hr,Frame.atR])
 have hfin:(b.atR a (.inRegion ops (i::rest)::k)).finish v=b.atR (a.put o.dst v) (.inRegion ops rest::k):=by rw [Frame.finish_atR,ho];rfl
 refine .head henter (hs.trans (.one ?_));rw [<-hfin];exact step_leave_returned hl
theorem nb {i:Nat}{o:Oper}{a:Act}{w:Wz}{x y:Operand}{c cap s r:Nat}{buf:Array Wq}{tm:Bool}{K:Act->Wz->Prop}(ho:ops[i]?=some o)(hw:Region.wanted o (yielded ops a.tmps)=true)(hop:o.op=.send x y)(hx:a.eval x=.chan (some c))
  (hc:w.heap[c]?=some (.chan cap buf false s r tm)) (hroom:buf.size<cap) (hK:K (a.put o.dst undef) (w.setChan c cap (buf.push (a.eval y)) false (s+1) r tm)):wT P ops ro i a w K:=by
 intro b k cs rest hb;refine ⟨_,_,hK,.one ?_⟩;have hg:=stepGR_op (P:=P) (b:=b) (k:=k) (cs:=cs) (w:=w) (rest:=rest) ho hw;rw [Oper.semAt_eq _ _ _ (by rw [hop];exact fun c h=>by cases h)] at hg;have he:(execOp a.eval o).run P w=.ok (.comm #[scase c (a.eval y) (.tuple #[])] true .send) w:=by
  have e:execOp a.eval o=pure (.comm #[{chan:=a.eval x,send:=some (a.eval y),zero:=.tuple #[]}] true .send):=by simp only [execOp,hop]
  rw [e,hx];rfl
 have hfin:(b.atR a (.inRegion ops (i::rest)::k)).finish undef=b.atR (a.put o.dst undef) (.inRegion ops rest::k):=by rw [Frame.finish_atR,ho];rfl
 obtain ⟨es,hcomm⟩:∃es,stepG P true (G (b.atR a (.inRegion ops (i::rest)::k)) cs) w=.comm (G (b.atR a (.inRegion ops (i::rest)::k)) cs) #[scase c (a.eval y) (.tuple #[])] true .send w es:=by
  have hg':stepG P true (G (b.atR a (.inRegion ops (i::rest)::k)) cs) w=_:=hg;rw [hg'];simp only [stepG.apply,G,Frame.atR,GStep.after,if_true];have h1:((execOp a.eval o).runT P w #[]).1=.ok (.comm #[scase c (a.eval y) (.tuple #[])] true .send) w:=by rw [Sem.runT_eq];exact he
  generalize (execOp a.eval o).runT P w #[]=z at h1;obtain ⟨z1,z2⟩:=z;subst h1;exact ⟨_,rfl⟩
 rw [<-hfin];exact step_lone_send_room hcomm hc hroom
theorem zk {K:Act->Wz->Prop}(I:Array Bool->Act->Wz->Prop)(hstep:∀listed a w i,I listed a w->i∈Region.ready .any ops listed->wT P ops ro i a w (I (listed.setIfInBounds i true)))(hend:∀listed a w,I listed a w->Region.ready .any ops listed=[]->K a w):
  ∀ (fuel t:Nat) (listed:Array Bool) (a:Act) (w:Wz),I listed a w->(List.range ops.size).countP (fun i=>!listed.getD i true)<=fuel->wU P ops ro K (Region.linearise.go .any ops fuel t listed []) a w:=by
 intro fuel;induction fuel with
 |zero=>
  intro t listed a w hI hz;have hz0:Region.ready .any ops listed=[]:=by
   unfold Region.ready;rw [List.filter_eq_nil_iff];intro i hi h;have:=List.countP_eq_zero.1 (Nat.le_zero.1 hz) i hi;simp only [bT] at h;exact this h.1
  simp only [Region.linearise.go];exact hend _ _ _ hI hz0
 |succ fuel ih=>
  intro t listed a w hI hz;simp only [Region.linearise.go];change wU P ops ro K (match (Region.ready .any ops listed)[t % (Region.ready .any ops listed).length]? with
   |some i=>Region.linearise.go .any ops fuel (t / (Region.ready .any ops listed).length) (listed.setIfInBounds i true) [i]
   |none=>[].reverse) a w
  cases hi:(Region.ready .any ops listed)[t % (Region.ready .any ops listed).length]? with
  |none=>
   refine hend _ _ _ hI ?_;cases hr:Region.ready .any ops listed with
   |nil=>rfl
   |cons x xs=>
    rw [hr,List.getElem?_eq_none_iff] at hi;have:=Nat.mod_lt t (show 0<(x::xs).length by simp);omega
  |some i=>
   simp only [];rw [linearise_go_acc,List.reverse_singleton,List.singleton_append];have hm:=List.mem_of_getElem? hi;refine (hstep _ _ _ i hI hm).mono fun a' w' hI'=>ih _ _ _ _ hI' ?_
   have hm':=List.mem_filter.1 hm;have hlt:i<ops.size:=List.mem_range.1 hm'.1;have h1:(!listed.getD i true)=true:=by
    have:=hm'.2;simp only [bT] at this;exact this.1
   have hls:i<listed.size:=by
    rcases Nat.lt_or_ge i listed.size with h|h
    .exact h
    .rw [gD,Array.getElem?_eq_none h] at h1;cases h1
   have hle:∀j,(!(listed.setIfInBounds i true).getD j true)=true->(!listed.getD j true)=true:=fun j h=>by
    by_cases hj:j=i
    .subst hj;exact h1
    .rw [gD,sN (fun e=>hj e.symm),<-gD] at h;exact h
   have hlt2:(List.range ops.size).countP (fun j=>!(listed.setIfInBounds i true).getD j true)<(List.range ops.size).countP (fun j=>!listed.getD j true):=by
    have hi0:(!(listed.setIfInBounds i true).getD i true)=false:=by
     rw [gD,sS hls];rfl
    obtain ⟨l1,l2,hl⟩:=List.append_of_mem (List.mem_range.2 hlt);rw [hl];simp only [List.countP_append,List.countP_cons,hi0,h1];have e1:=List.countP_mono_left (l:=l1) (fun j _=>hle j);have e2:=List.countP_mono_left (l:=l2) (fun j _=>hle j);simp only [Bool.false_eq_true,if_false,if_true];omega
   omega
theorem ou {id n:Nat}{Q:Exit->Act->Wz->Prop}{a:Act}{w:Wz}(hm:P.follows .mixedOrders=true)(I:Array Bool->Act->Wz->Prop)(hstep:∀listed a w i,I listed a w->i∈Region.ready .any ops listed->wT P ops ro i a w (I (listed.setIfInBounds i true)))(hend:∀listed a w,I listed a w->Region.ready .any ops listed=[]->Q .normal a w)
  (h0:I (Array.replicate ops.size false) a {w with drawn:=w.drawn+1}):(Code.region id ops true).wpIn (wf ro) n P Q a w:=by
 intro b k cs hb _ _;have ht:=zk (ro:=ro) I hstep hend ops.size (w.tape w.drawn (.order b.fn id)) _ a _ h0 (by
  have:=List.countP_le_length (p:=fun i=>!(Array.replicate ops.size false).getD i true) (l:=List.range ops.size);simpa using this)
 obtain ⟨a',w',h1,h2⟩:=i7 (b:=b) (k:=k) (cs:=cs) hb _ _ _ ht;refine ⟨.normal,a',w',h1,pz.2 (.head stepR_region_draw ?_)⟩;simp only [Region.schedule,hm,Bool.true_or,if_true];exact h2
end
section
variable {P:Wx} {ops:Array Oper} {ro:Option Nat}
theorem rh {i:Nat}{o:Oper}{a:Act}{w:Wz}{K:Act->Wz->Prop}(ho:ops[i]?=some o)(hw:Region.wanted o (yielded ops a.tmps)=false)(hK:K (a.put o.dst undef) w):wT P ops ro i a w K:=by
 intro b k cs rest hb;refine ⟨_,_,hK,.one ?_⟩;have hs:=stepR_op_skip (P:=P) (b:=b) (a:=a) (k:=k) (cs:=cs) (w:=w) (ops:=ops) (i:=i) (rest:=rest) (by simp [ho,hw]);simpa only [ho,Option.bind_some] using hs
theorem wV {i:Nat}{o:Oper}{a:Act}{w w':Wz}{l:Nat}{f:FuncId}{tmps:Array Wq}{assign body:Code}{n:Nat}{K:Act->Wz->Prop}(ho:ops[i]?=some o)(hw:Region.wanted o (yielded ops a.tmps)=true)(hd:∀c,o.op≠.defer c)(hr:(execOp a.eval o).run P w=.ok (.round l f tmps assign body) w')
  (hC:RoundIn (wf ro) n P l f tmps assign body w' fun e w''=>∃v,e=.returned v/\K (a.put o.dst v) w''):wT P ops ro i a w K:=by
 intro b k cs rest hb;obtain ⟨e,w2,⟨v,rfl,hK⟩,hs⟩:=hC.2 (b.atR a (.inRegion ops (i::rest)::k)) cs (DW _ _);have hs:=pz.1 (show StepsIn (Machine.fenced P (wf ro)) P _ _ from hs);refine ⟨_,_,hK,?_⟩;have hg:=stepGR_op (P:=P) (b:=b) (k:=k) (cs:=cs) (w:=w) (rest:=rest) ho hw;rw [Oper.semAt_eq _ _ _ hd] at hg;have henter:step P (lone (b.atR a (.inRegion ops (i::rest)::k)) cs w)=.next (lone (Frame.round l f tmps assign body .normal) (b.atR a (.inRegion ops (i::rest)::k)::cs) w'):=
  step_lone_go (by rw [hg];simp [stepG.apply,hr,Frame.atR])
 have hfin:(b.atR a (.inRegion ops (i::rest)::k)).finish v=b.atR (a.put o.dst v) (.inRegion ops rest::k):=by rw [Frame.finish_atR,ho];rfl
 rw [<-hfin];exact .head henter hs
theorem iN {a:Act}{d t:Nat}{v:Wq}(h:t≠d):(a.put (some d) v).eval (.tmp t)=a.eval (.tmp t):=by
 simp only [Act.put,Act.eval,gD];rw [sN (fun e=>h e.symm)]
theorem pB {a:Act}{d:Nat}{v:Wq}(h:d<a.tmps.size):(a.put (some d) v).eval (.tmp d)=v:=by
 simp only [Act.put,Act.eval,gD];rw [sS h];rfl
theorem iC {a:Act}{j d:Nat}{o:Oper}{x:Bool}(ho:ops[j]?=some o)(hd:o.dst=some d)(hs:d<a.tmps.size)(he:a.eval (.tmp d)=.bool x):yielded ops a.tmps j=some x:=by
 simp only [Act.eval,gD,eG hs,Option.getD_some] at he;simp [yielded,ho,hd,hs,he]
structure Vals (a0:Act)(base lim:Nat)(vals:Nat->Wq)(Wd:(Nat->Bool)->Wz->Prop)(sz:Nat)(listed:Array Bool)(a:Act)(w:Wz):Prop where
 size:a.tmps.size=a0.tmps.size
 defers:a.defers=a0.defers
 old:∀t,t<base->a.eval (.tmp t)=a0.eval (.tmp t)
 new:∀i,i<lim->listed.getD i false=true->a.eval (.tmp (base+i))=vals i
 world:Wd (fun i=>listed.getD i false) w
 len:listed.size=sz
theorem ke {listed:Array Bool}{i:Nat}{o:Oper}(h:i∈Region.ready .any ops listed)(ho:ops[i]?=some o):∀e∈o.after,Region.binds .any e=true->listed.getD e.on false=true:=by
 have h2:=(List.mem_filter.1 h).2;simp only [ho,Option.map_some,Option.getD_some,bT] at h2;intro e he hb;have:=Array.all_eq_true'.1 h2.2 e he;simpa [hb] using this
theorem cf {listed:Array Bool}{i:Nat}(h:i∈Region.ready .any ops listed):i<ops.size/\listed.getD i true=false:=by
 have h1:=List.mem_filter.1 h;have h2:=h1.2;simp only [bT,Bool.not_eq_true'] at h2;exact ⟨List.mem_range.1 h1.1,h2.1⟩
def dC (d:Nat->Bool)(i:Nat):Nat->Bool:=fun j=>if j=i then true else d j
theorem ov {listed:Array Bool}{i:Nat}(h:i<listed.size):(fun j=>(listed.setIfInBounds i true).getD j false)=dC (fun j=>listed.getD j false) i:=by
 funext j;unfold dC;by_cases hj:j=i
 .subst hj;rw [if_pos rfl,gD,sS h];rfl
 .rw [if_neg hj,gD,sN (fun e=>hj e.symm),<-gD]
theorem Vals.step {a0:Act}{base lim:Nat}{vals:Nat->Wq}{Wd:(Nat->Bool)->Wz->Prop}{listed:Array Bool}{a:Act}{w w':Wz}{i:Nat}{o:Oper}(V:Vals a0 base lim vals Wd ops.size listed a w)(hi:i∈Region.ready .any ops listed)(ho:ops[i]?=some o)(hd:i<lim->o.dst=some (base+i))(hd2:¬i<lim->o.dst=none)(hsz:base+lim<=a0.tmps.size)
  {v:Wq} (hv:i<lim->v=vals i) (hw:Wd (dC (fun j=>listed.getD j false) i) w'):Vals a0 base lim vals Wd ops.size (listed.setIfInBounds i true) (a.put o.dst v) w':=by
 have hlt:i<listed.size:=by rw [V.len];exact (cf hi).1
 by_cases h:i<lim
 .rw [hd h];refine ⟨by simp [Act.put,V.size],V.defers,fun t ht=>(iN (by omega)).trans (V.old t ht),fun j hj hl=>?_,by rw [ov hlt];exact hw,by simp [V.len]⟩;by_cases hji:j=i
  .subst hji;rw [pB (by rw [V.size];omega)];exact hv h
  .rw [iN (by omega)];refine V.new j hj ?_
   rwa [gD,sN (fun e=>hji e.symm),<-gD] at hl
 .rw [hd2 h];refine ⟨V.size,V.defers,V.old,fun j hj hl=>V.new j hj ?_,by rw [ov hlt];exact hw,by simp [V.len]⟩
  rwa [gD,sN (fun e=>h (by omega)),<-gD] at hl
def zl (ops:Array Oper):Bool:=(List.range ops.size).all fun i=>((ops[i]?).map fun o=>o.after.toList.all fun e=>decide (e.on<i)).getD true
def DX (ops:Array Oper)(base lim:Nat):Bool:=(List.range ops.size).all fun i=>((ops[i]?).map fun o=>if i<lim then o.dst==some (base+i) else o.dst==none).getD true
theorem uZ (hd:zl ops=true){listed:Array Bool}(hs:listed.size=ops.size)(hr:Region.ready .any ops listed=[]):∀i,i<ops.size->listed.getD i false=true:=by
  intro i;induction i using Nat.strongRecOn with
  |_ i ih=>
    intro hi;by_cases h:listed.getD i false=true
    . exact h
    . exfalso
      have hm:i∈Region.ready .any ops listed:=by
        refine List.mem_filter.2 ⟨List.mem_range.2 hi,?_⟩;have h1:=List.all_eq_true.1 hd i (List.mem_range.2 hi);simp only [eG hi,Option.map_some,Option.getD_some,bT] at h1 ⊢;refine ⟨?_,Array.all_eq_true'.2 fun e he=>?_⟩
        . rw [gD,eG (by omega)] at h ⊢
          simpa using h
        . have h2:=List.all_eq_true.1 h1 e (Array.mem_toList_iff.2 he)
          have h3 := ih e.on (by simpa using h2) (by have : e.on < i := by simpa using h2
                                                     omega)
          simp [h3]
      rw [hr] at hm;cases hm
theorem vd {base lim:Nat}(hd:DX ops base lim=true):∀i o,ops[i]?=some o->(i<lim->o.dst=some (base+i))/\(¬i<lim->o.dst=none):=by
 intro i o ho;have hi:i<ops.size:=(eS ho).1;have h1:=List.all_eq_true.1 hd i (List.mem_range.2 hi);simp only [ho,Option.map_some,Option.getD_some] at h1;refine ⟨fun h=>?_,fun h=>?_⟩
 .rw [if_pos h] at h1;simpa using h1
 .rw [if_neg h] at h1;simpa using h1
theorem i8 {id n:Nat}{Q:Exit->Act->Wz->Prop}{a0:Act}{w0:Wz}(hm:P.follows .mixedOrders=true)(base lim:Nat)(vals:Nat->Wq)(Wd:(Nat->Bool)->Wz->Prop)(hsz:base+lim<=a0.tmps.size)
  (hdst:DX ops base lim=true) (hdep:zl ops=true)
  (hstep:∀ (listed:Array Bool) (a:Act) (w:Wz) (i:Nat) (o:Oper),i∈Region.ready .any ops listed->ops[i]?=some o->Vals a0 base lim vals Wd ops.size listed a w->(∀e∈o.after,Region.binds .any e=true->listed.getD e.on false=true) ->
   wT P ops ro i a w (fun a' w'=>∃v,a'=a.put o.dst v/\(i<lim->v=vals i)/\Wd (dC (fun j=>listed.getD j false) i) w'))
  (hend:∀a w,a.tmps.size=a0.tmps.size->a.defers=a0.defers->(∀t,t<base->a.eval (.tmp t)=a0.eval (.tmp t))->(∀i,i<lim->i<ops.size->a.eval (.tmp (base+i))=vals i)->(∃d,(∀i,i<ops.size->d i=true)/\Wd d w)->Q .normal a w)
  (h0:Wd (fun _=>false) {w0 with drawn:=w0.drawn+1}):(Code.region id ops true).wpIn (wf ro) n P Q a0 w0:=by
 have hf:(fun i=>(Array.replicate ops.size false).getD i false)=fun _=>false:=by
  funext i;rw [gD,Array.getElem?_replicate];split<;>rfl
 refine ou hm (Vals a0 base lim vals Wd ops.size) (fun listed a w i V hi=>?_) (fun listed a w V hr=>?_) ⟨rfl,rfl,fun _ _=>rfl,fun i _ h=>?_,by rw [hf];exact h0,by simp⟩
 .have hlt:=(cf hi).1;have ho:=eG hlt;refine (hstep listed a w i _ hi ho V (ke hi ho)).mono ?_;rintro a' w' ⟨v,rfl,hv,hw⟩;exact V.step hi ho (vd hdst i _ ho).1 (vd hdst i _ ho).2 hsz hv hw
 .have h1:=uZ hdep V.len hr;exact hend a w V.size V.defers V.old (fun i hi hi2=>V.new i hi (h1 i hi2)) ⟨_,h1,V.world⟩
 .have:=congrFun hf i;exact absurd (this.symm.trans h) (by simp)
end
end
section
open Go.RowKit
theorem aj {W w1:Wz}(hb:Below W.heap.size W w1){a:Ww}{v:Wq}(h:W.cell? a=some v):w1.cell? a=some v:=by
 rw [hb.cell (bC W a h)];exact h
theorem ve (x y:Int):ly x y<0↔x<y:=by unfold ly;(repeat' split)<;>omega
theorem C4 (x y:Int):(ly x y==0)=decide (x=y):=by unfold ly;(repeat' split)<;>simp<;>omega
theorem DY (b n cap:Nat)(L:Nat->Int)(p:Nat->Option Ww)(t:Int)(w:Wz)(hn:n<=2199023255552)
  (hc:∀i,i<n->w.cell? ⟨b,i * 2,none⟩=some (.int .u8 (L i))/\w.cell? ⟨b,i * 2+1,none⟩=some (.pointer (p i)))
  (hs:∀i j,i<j->j<n->L i<L j):
  Calls Yq.prog 133 #[.slice (some ⟨b,0,none⟩) n cap,.int .u8 t,.func (.func 134) #[] #[]] w fun e w'=>∃r:Nat,r<=n/\(∀j,j<r->L j<t)/\(∀j,r<=j->j<n->t<=L j) /\
   e=.returned (.tuple #[.int .i64 r,.bool (decide (r<n/\L r=t))])/\Below w.heap.size w w':=by
 have HS:Hid (∀i j,i<j->j<n->L i<L j):=hs;clear hs;go_enter (Yq.nq Tryz.func133),Tryz.ntmps133;go_wp2
 go_loopw [9,10,11] (fun i j _ wr=>∃x y:Nat,x<=y/\y<=n/\i=.int .i64 x/\j=.int .i64 y/\(∀k,k<x->L k<t)/\(∀k,y<=k->k<n->t<=L k)/\Below w.heap.size w wr) (fun i j _ _=>(intOf j).toNat-(intOf i).toNat)
 case atStart=>exact ⟨0,n,Nat.zero_le _,lR _,rfl,rfl,fun k h=>absurd h (Nat.not_lt_zero _),fun k h1 h2=>absurd h2 (by omega),bR _ _⟩
 case round=>
  obtain ⟨x,y,hxy,hyn,rfl,rfl,hlo,hhi,hb⟩:=hrel;have HL:Hid (∀k,k<x->L k<t):=hlo;have HH:Hid (∀k,y<=k->k<n->t<=L k):=hhi;clear hlo hhi;by_cases hlt:x<y
  .obtain ⟨c0,c1⟩:=hc ((x+y) / 2) (by omega);replace c0:=aj hb c0;replace c1:=aj hb c1;by_cases hcm:L ((x+y) / 2)<t
   .have hcm':=(ve _ _).2 hcm;go_wp2_with (go_at_call 134;refine (oT _ _ _ _).mono ?_;rintro e w' ⟨rfl,rfl⟩)
    refine ⟨⟨(x+y) / 2+1,y,by omega,hyn,by go_num,rfl,fun k hk=>?_,HH.out,hb.alloc hb.size _⟩,by simp [intOf];omega⟩;by_cases hk2:k=(x+y) / 2
    .rw [hk2];exact hcm
    .have:=HS.out k ((x+y) / 2) (by omega) (by omega);omega
   .have hcm':¬ly (L ((x+y) / 2)) t<0:=fun h=>hcm ((ve _ _).1 h)
    go_wp2_with (go_at_call 134;refine (oT _ _ _ _).mono ?_;rintro e w' ⟨rfl,rfl⟩)
    refine ⟨⟨x,(x+y) / 2,by omega,by omega,rfl,by go_num,HL.out,fun k hk1 hk2=>?_,hb.alloc hb.size _⟩,by simp [intOf];omega⟩;by_cases hk3:k=(x+y) / 2
    .rw [hk3];omega
    .have:=HS.out ((x+y) / 2) k (by omega) (by omega);omega
  .have hxy2:x=y:=by omega
   subst hxy2;clear hlt hxy;by_cases hxn:x<n
   .obtain ⟨c0,c1⟩:=hc x hxn;replace c0:=aj hb c0;replace c1:=aj hb c1;go_wp2_with (go_at_call 134;refine (oT _ _ _ _).mono ?_;rintro e w' ⟨rfl,rfl⟩)
    go_ret2
    exact ⟨x,hyn,HL.out,HH.out,by simp [hxn,C4],hb.alloc hb.size _⟩
   .go_wp2
    go_ret2
    exact ⟨x,hyn,HL.out,HH.out,by simp [hxn],hb⟩
theorem BD (a:Option Ww)(cap:Nat)(t:Int)(w:Wz):
  Calls Yq.prog 133 #[.slice a 0 cap,.int .u8 t,.func (.func 134) #[] #[]] w fun e w'=>e=.returned (.tuple #[.int .i64 0,.bool false])/\w'=w:=by
 go_enter (Yq.nq Tryz.func133),Tryz.ntmps133;go_wp2;refine wp_loop_rounds 1 ?_;rw [rounds_succ];go_wp2
 go_ret2
 exact ⟨rfl,rfl⟩
theorem DZ (b n cap:Nat)(L:Nat->Int)(S:Nat->ByteArray)(M:Nat->Bool)(t:Int)(w:Wz)(hn:n<=2199023255552)
  (hc:∀i,i<n->w.cell? ⟨b,i * 3,none⟩=some (.int .i64 (L i))/\w.cell? ⟨b,i * 3+1,none⟩=some (.string (S i))/\w.cell? ⟨b,i * 3+2,none⟩=some (.bool (M i)))
  (hs:∀i j,i<j->j<n->L i<L j):
  Calls Yq.prog 112 #[.slice (some ⟨b,0,none⟩) n cap,.int .i64 t,.func (.func 113) #[] #[]] w fun e w'=>∃r:Nat,r<=n/\(∀j,j<r->L j<t)/\(∀j,r<=j->j<n->t<=L j) /\
   e=.returned (.tuple #[.int .i64 r,.bool (decide (r<n/\L r=t))])/\Below w.heap.size w w':=by
 have HS:Hid (∀i j,i<j->j<n->L i<L j):=hs;clear hs;go_enter (Yq.nq Tryz.func112),Tryz.ntmps112;go_wp2
 go_loopw [9,10,11] (fun i j _ wr=>∃x y:Nat,x<=y/\y<=n/\i=.int .i64 x/\j=.int .i64 y/\(∀k,k<x->L k<t)/\(∀k,y<=k->k<n->t<=L k)/\Below w.heap.size w wr) (fun i j _ _=>(intOf j).toNat-(intOf i).toNat)
 case atStart=>exact ⟨0,n,Nat.zero_le _,lR _,rfl,rfl,fun k h=>absurd h (Nat.not_lt_zero _),fun k h1 h2=>absurd h2 (by omega),bR _ _⟩
 case round=>
  obtain ⟨x,y,hxy,hyn,rfl,rfl,hlo,hhi,hb⟩:=hrel;have HL:Hid (∀k,k<x->L k<t):=hlo;have HH:Hid (∀k,y<=k->k<n->t<=L k):=hhi;clear hlo hhi;by_cases hlt:x<y
  .obtain ⟨c0,c1,c2⟩:=hc ((x+y) / 2) (by omega);replace c0:=aj hb c0;replace c1:=aj hb c1;replace c2:=aj hb c2;by_cases hcm:L ((x+y) / 2)<t
   .have hcm':=(ve _ _).2 hcm;go_wp2_with (go_at_call 113;refine (oU _ _ _ _ _).mono ?_;rintro e w' ⟨rfl,rfl⟩)
    refine ⟨⟨(x+y) / 2+1,y,by omega,hyn,by go_num,rfl,fun k hk=>?_,HH.out,hb.alloc hb.size _⟩,by simp [intOf];omega⟩;by_cases hk2:k=(x+y) / 2
    .rw [hk2];exact hcm
    .have:=HS.out k ((x+y) / 2) (by omega) (by omega);omega
   .have hcm':¬ly (L ((x+y) / 2)) t<0:=fun h=>hcm ((ve _ _).1 h)
    go_wp2_with (go_at_call 113;refine (oU _ _ _ _ _).mono ?_;rintro e w' ⟨rfl,rfl⟩)
    refine ⟨⟨x,(x+y) / 2,by omega,by omega,rfl,by go_num,HL.out,fun k hk1 hk2=>?_,hb.alloc hb.size _⟩,by simp [intOf];omega⟩;by_cases hk3:k=(x+y) / 2
    .rw [hk3];omega
    .have:=HS.out ((x+y) / 2) k (by omega) (by omega);omega
  .have hxy2:x=y:=by omega
   subst hxy2;clear hlt hxy;by_cases hxn:x<n
   .obtain ⟨c0,c1,c2⟩:=hc x hxn;replace c0:=aj hb c0;replace c1:=aj hb c1;replace c2:=aj hb c2;go_wp2_with (go_at_call 113;refine (oU _ _ _ _ _).mono ?_;rintro e w' ⟨rfl,rfl⟩)
    go_ret2
    exact ⟨x,hyn,HL.out,HH.out,by simp [hxn,C4],hb.alloc hb.size _⟩
   .go_wp2
    go_ret2
    exact ⟨x,hyn,HL.out,HH.out,by simp [hxn],hb⟩
theorem BE (a:Option Ww)(cap:Nat)(t:Int)(w:Wz):
  Calls Yq.prog 112 #[.slice a 0 cap,.int .i64 t,.func (.func 113) #[] #[]] w fun e w'=>e=.returned (.tuple #[.int .i64 0,.bool false])/\w'=w:=by
 go_enter (Yq.nq Tryz.func112),Tryz.ntmps112;go_wp2;refine wp_loop_rounds 1 ?_;rw [rounds_succ];go_wp2
 go_ret2
 exact ⟨rfl,rfl⟩
end
