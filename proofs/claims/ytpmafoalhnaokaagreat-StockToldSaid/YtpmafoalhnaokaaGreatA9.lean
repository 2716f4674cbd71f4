/- Str Par Par2 Par3 Par4 Par5 Par6 Par7 -/
import Derived.Test.YtpmafoalhnaokaaGreatA0
import Derived.Calls
import Derived.Laws.Sem
set_option maxRecDepth 100000
set_option maxHeartbeats 16000000
set_option linter.unusedVariables false
set_option linter.unusedSectionVars false
namespace Go
def FT(l:List Nat):String:=String.ofList (l.map Char.ofNat)
def sQ1:String:=FT [108,111,97,100,58,32,110,111,32,115,117,99,104,32,99,101,108,108]
def sQ2:String:=FT [115,116,111,114,101,58,32,110,111,32,115,117,99,104,32,99,101,108,108]
def sQ3:String:=FT [117,110,119,105,110,100,58,32,116,104,101,32,102,114,97,109,101,32,105,115,32,114,117,110,110,105,110,103]
def BY:String:=FT [101,120,105,116,44,32,103,111,116,111,58,32,110,111,32,115,117,99,104,32,98,108,111,99,107,32,111,114,32,108,97,98,101,108]
def eQ:String:=FT [114,97,110,103,101,32,111,118,101,114,32,97,32,102,117,110,99,116,105,111,110,58,32,110,111,32,115,117,99,104,32,108,111,111,112]
def rm:String:=FT [98,101,103,105,110,82,111,117,110,100,58,32,110,111,32,114,111,117,110,100]
def sQ7:String:=FT [114,101,116,117,114,110,58,32,116,104,101,32,114,101,115,117,108,116,32,118,97,114,105,97,98,108,101,115,32,99,97,110,110,111,116,32,98,101,32,114,101,97,100]
def sQ8:String:=FT [78,101,120,116,58,32,110,111,32,115,117,99,104,32,99,97,110,100,105,100,97,116,101]
def sQ9:String:=FT [98,117,105,108,100,83,108,105,99,101,58,32,97,32,112,97,114,116,32,111,102,32,116,104,101,32,119,114,111,110,103,32,115,105,122,101]
def BE:String:=FT [103,114,111,119,115,108,105,99,101,58,32,108,101,110,32,111,117,116,32,111,102,32,114,97,110,103,101]
def BT:String:=FT [97,112,112,101,110,100,58,32,97,32,115,108,105,99,101,32,111,114,32,97,32,115,116,114,105,110,103,32,119,104,111,115,101,32,98,121,116,101,115,32,110,111,32,109,101,109,111,114,121,32,98,101,97,114,115]
def XX:String:=FT [97,110,111,116,104,101,114,32,101,110,100,32,111,102,32,97,110,32,105,116,101,114,97,116,111,114,39,115,32,99,97,108,108]
def X':String:=FT [99,111,110,100,58,32,98,111,111,108,32,101,120,112,101,99,116,101,100]
def Za:String:=FT [97,32,118,97,108,117,101,32,111,102,32,109,111,114,101,32,116,104,97,110,32,50,94,50,50,32,99,101,108,108,115]
def Ys:String:=FT [111,112,47,105,110,100,101,120,65,100,100,114,46,97,110,32,105,110,100,101,120,32,111,117,116,32,111,102,32,114,97,110,103,101,32,97,116,32,97,110,32,97,114,114,97,121,32,111,102,32,108,101,110,103,116,104,32,48,32,111,114,32,49,32,40,108,101,100,103,101,114,32,54,49,54,41]
def BV:String:=FT [98,105,110,111,112,47,101,113,108,58,32,116,119,111,32,110,105,108,32,118,97,108,117,101,115,32,111,102,32,97,110,32,105,110,116,101,114,102,97,99,101,32,116,121,112,101,32,119,105,116,104,32,109,101,116,104,111,100,115,44,32,110,101,105,116,104,101,114,32,111,102,32,116,104,101,109,32,116,104,101,32,108,105,116,101,114,97,108,32,110,105,108]
def EX:String:=FT [110,101,119,115,46,103,111,58,52,56]
def BW:String:=FT [108,105,115,116,115,46,103,111,58,55,50]
end Go
namespace Go.bZ
section
abbrev Ren:=Nat→Option Nat
def Le(ρ ρ':Ren):Prop:=∀b b',ρ b=some b'→ρ' b=some b'
theorem Le.refl(ρ:Ren):Le ρ ρ:=fun _ _ h=>h
theorem Le.trans{a b c:Ren}(h:Le a b)(k:Le b c):Le a c:=fun _ _ e=>k _ _ (h _ _ e)
def dL(ρ:Ren):Prop:=∀a b c,ρ a=some c→ρ b=some c→a=b
def Ext(ρ ρ':Ren):Prop:=Le ρ ρ'∧dL ρ'
theorem Ext.refl{ρ:Ren}(h:dL ρ):Ext ρ ρ:=⟨.refl ρ,h⟩
theorem Ext.trans{a b c:Ren}(h:Ext a b)(k:Ext b c):Ext a c:=⟨h.1.trans k.1,k.2⟩
theorem Ext.of{a b c:Ren}(h:Le a b)(k:Ext b c):Ext a c:=⟨h.trans k.1,k.2⟩
def AR(ρ:Ren)(a a':Addr):Prop:=ρ a.block=some a'.block∧a'.off=a.off∧a'.spot=a.spot
theorem AR.mono{ρ ρ':Ren}(l:Le ρ ρ'){a a':Addr}(h:AR ρ a a'):AR ρ' a a':=⟨l _ _ h.1,h.2⟩
inductive VR (ρ:Ren):Value→Value→Prop
 | bool (b:Bool):VR ρ (.bool b) (.bool b)
 | int (k:IntKind) (n:Int):VR ρ (.int k n) (.int k n)
 | float (k:FloatKind) (n:Nat):VR ρ (.float k n) (.float k n)
 | complex (k:FloatKind) (m n:Nat):VR ρ (.complex k m n) (.complex k m n)
 | string (s:ByteArray):VR ρ (.string s) (.string s)
 | yD:VR ρ (.pointer none) (.pointer none)
 | ptr {a a':Addr}:AR ρ a a'→VR ρ (.pointer (some a)) (.pointer (some a'))
 | yL (l c:Nat):VR ρ (.slice none l c) (.slice none l c)
 | sl {a a':Addr} (l c:Nat):AR ρ a a'→VR ρ (.slice (some a) l c) (.slice (some a') l c)
 | YH:VR ρ (.map none) (.map none)
 | map {r r':Nat}:ρ r=some r'→VR ρ (.map (some r)) (.map (some r'))
 | XP:VR ρ (.chan none) (.chan none)
 | chan {r r':Nat}:ρ r=some r'→VR ρ (.chan (some r)) (.chan (some r'))
 | func (g:FuncId) {x x' y y':Array Value}:x.size=x'.size→(∀ (i:Nat) (h:i<x.size) (h':i<x'.size),VR ρ x[i] x'[i])→y.size=y'.size→(∀ (i:Nat) (h:i<y.size) (h':i<y'.size),VR ρ y[i] y'[i])→
  VR ρ (.func (.func g) x y) (.func (.func g) x' y')
 | yield {l l':Nat}:ρ l=some l'→VR ρ (.func (.yield l) #[] #[]) (.func (.yield l') #[] #[])
 | nilFunc:VR ρ .nilFunc .nilFunc
 | iface (t:TypeId) {v v':Value}:VR ρ v v'→VR ρ (.iface t v) (.iface t v')
 | nilIface:VR ρ .nilIface .nilIface
 | agg {x x':Array Value}:x.size=x'.size→(∀ (i:Nat) (h:i<x.size) (h':i<x'.size),VR ρ x[i] x'[i])→VR ρ (.agg x) (.agg x')
 | tuple {x x':Array Value}:x.size=x'.size→(∀ (i:Nat) (h:i<x.size) (h':i<x'.size),VR ρ x[i] x'[i])→VR ρ (.tuple x) (.tuple x')
def dW(ρ:Ren)(x x':Array Value):Prop:=x.size=x'.size∧∀ (i:Nat) (h:i<x.size) (h':i<x'.size),VR ρ x[i] x'[i]
theorem VR.mono{ρ ρ':Ren}(l:Le ρ ρ'){v v':Value}(h:VR ρ v v'):VR ρ' v v':=by
 induction h with
 | bool b=>exact .bool b
 | int k n=>exact .int k n
 | float k n=>exact .float k n
 | complex k m n=>exact .complex k m n
 | string s=>exact .string s
 | yD=>exact .yD
 | ptr h=>exact .ptr (h.mono l)
 | yL a c=>exact .yL a c
 | sl a c h=>exact .sl a c (h.mono l)
 | YH=>exact .YH
 | map h=>exact .map (l _ _ h)
 | XP=>exact .XP
 | chan h=>exact .chan (l _ _ h)
 | func g e1 _ e2 _ ih1 ih2=>exact .func g e1 ih1 e2 ih2
 | yield h=>exact .yield (l _ _ h)
 | nilFunc=>exact .nilFunc
 | iface t _ ih=>exact .iface t ih
 | nilIface=>exact .nilIface
 | agg e _ ih=>exact .agg e ih
 | tuple e _ ih=>exact .tuple e ih
theorem dW.mono{ρ ρ':Ren}(l:Le ρ ρ'){x x':Array Value}(h:dW ρ x x'):dW ρ' x x':=⟨h.1,fun i a b=>(h.2 i a b).mono l⟩
theorem dW.get?{ρ:Ren}{x x':Array Value}(h:dW ρ x x')(i:Nat):(x[i]? =none∧x'[i]? =none)∨∃v v',x[i]? =some v∧x'[i]? =some v'∧VR ρ v v':=by
 rcases Nat.lt_or_ge i x.size with hi|hi
 ·have hi':i<x'.size:=h.1 ▸ hi
  exact .inr ⟨x[i],x'[i],by simp[hi],by simp[hi'],h.2 i hi hi'⟩
 ·have hi':x'.size≤i:=h.1 ▸ hi
  exact .inl ⟨by simp[hi],by simp[hi']⟩
theorem VR.undef(ρ:Ren):VR ρ undef undef:=.tuple rfl (fun i h=>by simp at h)
theorem dW.getD{ρ:Ren}{x x':Array Value}(h:dW ρ x x')(i:Nat):VR ρ (x.getD i undef) (x'.getD i undef):=by
 rcases h.get? i with⟨a,b⟩|⟨v,v',a,b,c⟩
 ·simp only[Array.getD_eq_getD_getElem?,a,b,Option.getD_none];exact .undef ρ
 ·simp only[Array.getD_eq_getD_getElem?,a,b,Option.getD_some];exact c
theorem dW.nil(ρ:Ren):dW ρ #[] #[]:=⟨rfl,fun i h=>by simp at h⟩
theorem dW.push{ρ:Ren}{x x':Array Value}{v v':Value}(h:dW ρ x x')(hv:VR ρ v v'):dW ρ (x.push v) (x'.push v'):=by
 refine⟨by simp[h.1],fun i a b=>?_⟩
 by_cases hi:i<x.size
 ·have hi':i<x'.size:=h.1 ▸ hi
  rw[Array.getElem_push_lt hi,Array.getElem_push_lt hi'];exact h.2 i hi hi'
 ·have e:i=x.size:=by simp at a;omega
  subst e
  have:x.size=x'.size:=h.1
  simp only[Array.getElem_push_eq]
  have e2:(x'.push v')[x.size]=v':=by simp[this]
  rw[e2];exact hv
theorem dW.set{ρ:Ren}{x x':Array Value}{v v':Value}(h:dW ρ x x')(i:Nat)(hv:VR ρ v v'):dW ρ (x.setIfInBounds i v) (x'.setIfInBounds i v'):=by
 refine⟨by simp[h.1],fun j a b=>?_⟩
 have hj:j<x.size:=by simpa using a
 have hj':j<x'.size:=by simpa using b
 by_cases e:i=j
 ·subst e;simp;exact hv
 ·rw[Array.getElem_setIfInBounds_ne hj e,Array.getElem_setIfInBounds_ne hj' e];exact h.2 j hj hj'
theorem dW.append{ρ:Ren}{x x' y y':Array Value}(h:dW ρ x x')(k:dW ρ y y'):dW ρ (x ++ y) (x' ++ y'):=by
 refine⟨by simp[h.1,k.1],fun i a b=>?_⟩
 have e:=h.1
 by_cases hi:i<x.size
 ·rw[Array.getElem_append_left hi,Array.getElem_append_left zo];exact h.2 i hi zo
 ·rw[Array.getElem_append_right zo,Array.getElem_append_right zo]
  have:=k.2 (i - x.size) (by simp at a;omega) (by simp at b;omega)
  simpa only[e] using this
theorem dW.extract{ρ:Ren}{x x':Array Value}(h:dW ρ x x')(a b:Nat):dW ρ (x.extract a b) (x'.extract a b):=by
 refine⟨by simp[h.1],fun i p q=>?_⟩
 rw[Array.getElem_extract,Array.getElem_extract]
 exact h.2 _ _ _
theorem VR.cells{ρ:Ren}{v v':Value}(h:VR ρ v v'):dW ρ v.cells v'.cells:=by
 have one:∀ {v v':Value},VR ρ v v'→dW ρ #[v] #[v']:=fun hv=>⟨rfl,fun i a b=>by
  have:i=0:=by simp at a;omega
  subst this;exact hv⟩
 cases h with
 | agg e h=>exact⟨e,h⟩
 | _=>first|exact one (by constructor <;> assumption)|exact one (by constructor)
structure DV(ρ:Ren)(e e':MapEntry):Prop where
 key:VR ρ e.key e'.key
 val:VR ρ e.val e'.val
 born:e'.born=e.born
def rW(ρ:Ren)(x x':Array MapEntry):Prop:=x.size=x'.size∧∀ (i:Nat) (h:i<x.size) (h':i<x'.size),DV ρ x[i] x'[i]
theorem DV.mono{ρ ρ':Ren}(l:Le ρ ρ'){e e':MapEntry}(h:DV ρ e e'):DV ρ' e e':=⟨h.key.mono l,h.val.mono l,h.born⟩
theorem rW.mono{ρ ρ':Ren}(l:Le ρ ρ'){x x':Array MapEntry}(h:rW ρ x x'):rW ρ' x x':=⟨h.1,fun i a b=>(h.2 i a b).mono l⟩
structure aT where
 jr:FuncId→Code→Prop
variable[Inhabited aT]
def jr(f:FuncId)(c:Code):Prop:=(default:aT).jr f c
structure SB(r:Loop):Prop where
 assign:jr r.fn r.assign
 body:jr r.fn r.body
 pending:∀j,r.pending=some j→jr r.fn j
structure uW(ρ:Ren)(r r':Loop):Prop where
 eq:r'={r with tmps:=r'.tmps,defers:=r'.defers }
 tmps:dW ρ r.tmps r'.tmps
 defers:ρ r.defers=some r'.defers
 ok:SB r
theorem uW.mono{ρ ρ':Ren}(l:Le ρ ρ'){r r':Loop}(h:uW ρ r r'):uW ρ' r r':=⟨h.eq,h.tmps.mono l,l _ _ h.defers,h.ok⟩
inductive OR (ρ:Ren):Obj→Obj→Prop
 | cells {c c':Array Value} (e:TypeId) {f f':Nat × Nat}:dW ρ c c'→(∀o,f'.1≤o→o<f'.2→f.1≤o∧o<f.2)→OR ρ (.cells c e f) (.cells c' e f')
 | map {x x':Array MapEntry} (k:Nat):rW ρ x x'→OR ρ (.map x k) (.map x' k)
 | number {a a':Addr} (l:Bool):AR ρ a a'→OR ρ (.number a l) (.number a' l)
 | loop {r r':Loop}:uW ρ r r'→OR ρ (.loop r) (.loop r')
 | defs {d:Option (List Deferred)}:(d=none∨d=some [])→OR ρ (.deferred d) (.deferred d)
theorem OR.mono{ρ ρ':Ren}(l:Le ρ ρ'){o o':Obj}(h:OR ρ o o'):OR ρ' o o':=by
 cases h with
 | cells e h f=>exact .cells e (h.mono l) f
 | map k h=>exact .map k (h.mono l)
 | number b h=>exact .number b (h.mono l)
 | loop h=>exact .loop (h.mono l)
 | defs h=>exact .defs h
structure WR(ρ:Ren)(w w':World):Prop where
 obj:∀b b',ρ b=some b'→∃o o',w.heap[b]? =some o∧w'.heap[b']? =some o'∧OR ρ o o'
 inj:dL ρ
def kI(w w':World):Prop:=∀k q,w.tape (w.drawn+k) q=w'.tape (w'.drawn+k) q
def um:Halt→Prop
 | .goexit| .blocked| .waiting| .unsupported (.initOrder _)=>False
 | _=>True
def Dead{α:Type}:Sem α→Prop
 | .halt h=>um h
 | .shape _ k=>∀x,Dead (k x)
 | .frozen _ k=>∀x,Dead (k x)
 | .choose _ k=>∀x,Dead (k x)
 | .mark _ k=>Dead k
 | _=>False
theorem Dead.bind{α β:Type}{s:Sem α}(f:α→Sem β)(h:Dead s):Dead (s.bind f):=by
 induction s with
 | shape r k ih=>exact fun x=>ih x (h x)
 | frozen r k ih=>exact fun x=>ih x (h x)
 | choose r k ih=>exact fun x=>ih x (h x)
 | mark m k ih=>exact ih h
 | halt e=>exact h
 | _=>exact h.elim
def SR(P:Program){α β:Type}(Q:Ren→α→β→Prop):Ren→Sem α→Sem β→Prop
 | ρ,.pure a,s'=>∃b,s'=.pure b∧Q ρ a b
 | ρ,.load m a k,s'=>∃a' k',s'=.load m a' k'∧m=.plain∧AR ρ a a'∧∀ρ',Ext ρ ρ'→∀v v',VR ρ' v v'→SR P Q ρ' (k v) (k' v')
 | ρ,.store m a v k,s'=>∃a' v' k',s'=.store m a' v' k'∧m=.plain∧AR ρ a a'∧VR ρ v v'∧SR P Q ρ k k'
 | ρ,.new o k,s'=>∃o' k',s'=.new o' k'∧OR ρ o o'∧∀ρ',Ext ρ ρ'→∀r r',ρ' r=some r'→SR P Q ρ' (k r) (k' r')
 | ρ,.shape r k,s'=>∃r' k',s'=.shape r' k'∧ρ r=some r'∧∀x,SR P Q ρ (k x) (k' x)
 | ρ,.getObj r k,s'=>∃r' k',s'=.getObj r' k'∧ρ r=some r'∧∀ρ',Ext ρ ρ'→∀o o',OR ρ' o o'→SR P Q ρ' (k o) (k' o')
 | ρ,.setObj r o k,s'=>∃r' o' k',s'=.setObj r' o' k'∧ρ r=some r'∧OR ρ o o'∧SR P Q ρ k k'
 | ρ,.choose q k,s'=>∃k',s'=.choose q k'∧∀n,SR P Q ρ (k n) (k' n)
 | ρ,.program k,s'=>∃k',s'=.program k'∧SR P Q ρ (k P) (k' P)
 | _,.halt h,_=>um h
 | _,.frozen _ k,_=>∀x,Dead (k x)
 | ρ,.mark m k,s'=>∃k',s'=.mark m k'∧m=.noRoom∧SR P Q ρ k k'
 | _,.freeze ..,_|_,.sys ..,_=>False
def tx{α β:Type}(Q:Ren→α→β→Prop):Prop:=∀ρ ρ',Le ρ ρ'→∀a b,Q ρ a b→Q ρ' a b
theorem SR.mono{P:Program}{α β:Type}{Q:Ren→α→β→Prop}(hQ:tx Q){s:Sem α}:∀ {ρ ρ':Ren} {s':Sem β},Le ρ ρ'→SR P Q ρ s s'→SR P Q ρ' s s':=by
 induction s with
 | pure a=>rintro ρ ρ' s' l ⟨b,e,h⟩;exact⟨b,e,hQ _ _ l _ _ h⟩
 | load m a k ih=>rintro ρ ρ' s' l ⟨a',k',e,hm,h,hk⟩;exact⟨a',k',e,hm,h.mono l,fun ρ2 l2=>hk ρ2 (.of l l2)⟩
 | store m a v k ih=>rintro ρ ρ' s' l ⟨a',v',k',e,hm,h,hv,hk⟩;exact⟨a',v',k',e,hm,h.mono l,hv.mono l,ih l hk⟩
 | new o k ih=>rintro ρ ρ' s' l ⟨o',k',e,h,hk⟩;exact⟨o',k',e,h.mono l,fun ρ2 l2=>hk ρ2 (.of l l2)⟩
 | shape r k ih=>rintro ρ ρ' s' l ⟨r',k',e,h,hk⟩;exact⟨r',k',e,l _ _ h,fun x=>ih x l (hk x)⟩
 | getObj r k ih=>rintro ρ ρ' s' l ⟨r',k',e,h,hk⟩;exact⟨r',k',e,l _ _ h,fun ρ2 l2=>hk ρ2 (.of l l2)⟩
 | setObj r o k ih=>rintro ρ ρ' s' l ⟨r',o',k',e,h,ho,hk⟩;exact⟨r',o',k',e,l _ _ h,ho.mono l,ih l hk⟩
 | choose q k ih=>rintro ρ ρ' s' l ⟨k',e,hk⟩;exact⟨k',e,fun n=>ih n l (hk n)⟩
 | program k ih=>rintro ρ ρ' s' l ⟨k',e,hk⟩;exact⟨k',e,ih P l hk⟩
 | halt h=>intros;assumption
 | freeze a n k ih=>intro ρ ρ' s' l h;exact h.elim
 | frozen a k ih=>intro ρ ρ' s' l h;exact h
 | sys c k ih=>intro ρ ρ' s' l h;exact h.elim
 | mark m k ih=>rintro ρ ρ' s' l ⟨k',e,hm,hk⟩;exact⟨k',e,hm,ih l hk⟩
theorem SR.bind{P:Program}{α β γ δ:Type}{Q:Ren→α→β→Prop}{R:Ren→γ→δ→Prop}{s:Sem α}{f:α→Sem γ}{f':β→Sem δ}:
 ∀ {ρ:Ren} {s':Sem β},dL ρ→SR P Q ρ s s'→(∀ρ',Ext ρ ρ'→∀a b,Q ρ' a b→SR P R ρ' (f a) (f' b))→SR P R ρ (s.bind f) (s'.bind f'):=by
 induction s with
 | pure a=>rintro ρ s' hi ⟨b,rfl,h⟩ hf;exact hf ρ (.refl hi) a b h
 | load m a k ih=>rintro ρ s' hi ⟨a',k',rfl,hm,h,hk⟩ hf;exact⟨a',_,rfl,hm,h,fun ρ2 l2 v v' hv=>ih v l2.2 (hk ρ2 l2 v v' hv) fun ρ3 l3=>hf ρ3 (l2.trans l3)⟩
 | store m a v k ih=>rintro ρ s' hi ⟨a',v',k',rfl,hm,h,hv,hk⟩ hf;exact⟨a',v',_,rfl,hm,h,hv,ih hi hk hf⟩
 | new o k ih=>rintro ρ s' hi ⟨o',k',rfl,h,hk⟩ hf;exact⟨o',_,rfl,h,fun ρ2 l2 r r' hr=>ih r l2.2 (hk ρ2 l2 r r' hr) fun ρ3 l3=>hf ρ3 (l2.trans l3)⟩
 | shape r k ih=>rintro ρ s' hi ⟨r',k',rfl,h,hk⟩ hf;exact⟨r',_,rfl,h,fun x=>ih x hi (hk x) hf⟩
 | getObj r k ih=>rintro ρ s' hi ⟨r',k',rfl,h,hk⟩ hf;exact⟨r',_,rfl,h,fun ρ2 l2 o o' ho=>ih o l2.2 (hk ρ2 l2 o o' ho) fun ρ3 l3=>hf ρ3 (l2.trans l3)⟩
 | setObj r o k ih=>rintro ρ s' hi ⟨r',o',k',rfl,h,ho,hk⟩ hf;exact⟨r',o',_,rfl,h,ho,ih hi hk hf⟩
 | choose q k ih=>rintro ρ s' hi ⟨k',rfl,hk⟩ hf;exact⟨_,rfl,fun n=>ih n hi (hk n) hf⟩
 | program k ih=>rintro ρ s' hi ⟨k',rfl,hk⟩ hf;exact⟨_,rfl,ih P hi hk hf⟩
 | halt h=>intros;assumption
 | freeze a n k ih=>intro ρ s' _ h;exact h.elim
 | frozen a k ih=>intro ρ s' _ h _;exact fun x=>(h x).bind f
 | sys c k ih=>intro ρ s' _ h;exact h.elim
 | mark m k ih=>rintro ρ s' hi ⟨k',rfl,hm,hk⟩ hf;exact⟨_,rfl,hm,ih hi hk hf⟩
theorem SR.bind'{P:Program}{α β γ δ:Type}{Q:Ren→α→β→Prop}{R:Ren→γ→δ→Prop}{s:Sem α}{f:α→Sem γ}{f':β→Sem δ}{ρ:Ren}{s':Sem β}(hi:dL ρ)
 (h:SR P Q ρ s s')(hf:∀ρ',Ext ρ ρ'→∀a b,Q ρ' a b→SR P R ρ' (f a) (f' b)):SR P R ρ (s >>= f) (s' >>= f'):=h.bind hi hf
theorem SR.pure{P:Program}{α β:Type}{Q:Ren→α→β→Prop}{ρ:Ren}{a:α}{b:β}(h:Q ρ a b):SR P Q ρ (Pure.pure a) (Pure.pure b):=⟨b,rfl,h⟩
theorem SR.imp{P:Program}{α β:Type}{Q Q':Ren→α→β→Prop}(hq:∀ρ a b,Q ρ a b→Q' ρ a b){s:Sem α}{s':Sem β}{ρ:Ren}(hi:dL ρ)(h:SR P Q ρ s s'):SR P Q' ρ s s':=by
 have:=h.bind hi (f:=Sem.pure) (f':=Sem.pure) (R:=Q') fun ρ' _ a b q=>⟨b,rfl,hq ρ' a b q⟩
 have e:∀ {γ:Type} (t:Sem γ),t.bind Sem.pure=t:=by
  intro γ t
  induction t <;> simp[Sem.bind, *]
 rwa[e,e] at this
end
section
variable[Inhabited aT]
def Fz(w:World)(b:Nat):Prop:=∃c e f,w.heap[b]? =some (.cells c e f)∧∀o,o<c.size→f.1≤o∧o<f.2
def RH(O C:Nat→Prop)(e:Event):Prop:=e=⟨.mark .noRoom,false,true⟩∨
 e.sync=false∧((∃a,e.loc=.cell a∧(O a.block∨(e.write=false∧C a.block)))∨(∃r,e.loc=.obj r∧O r))
structure Ran(C O O1:Nat→Prop)(ρ ρ1:Ren)(w w1 w' w1':World)(new:List Event):Prop where
 le:Le ρ ρ1
 wr:WR ρ1 w1 w1'
 tuned:kI w1 w1'
 tape:w1'.tape=w'.tape
 os:w1'.os=w'.os
 output:w1'.output=w'.output
 size:w'.heap.size≤w1'.heap.size
 other:∀b,b<w'.heap.size→¬ O b→w1'.heap[b]? =w'.heap[b]?
 own:∀b,O1 b↔O b∨(w'.heap.size≤b∧b<w1'.heap.size)
 cl:∀b b',ρ1 b=some b'→(Fz w1 b∧C b')∨O1 b'
 evs:∀e∈new,RH O1 C e
variable{P:Program}
theorem WR.lt{ρ:Ren}{w w':World}(h:WR ρ w w'){b b':Nat}(e:ρ b=some b'):b<w.heap.size∧b'<w'.heap.size:=by
 obtain⟨o,o',h1,h2,_⟩:=h.obj b b' e
 exact⟨(Array.getElem?_eq_some_iff.1 h1).1,(Array.getElem?_eq_some_iff.1 h2).1⟩
theorem sw{ρ:Ren}{w w':World}(h:WR ρ w w'){a a':Addr}(ha:AR ρ a a'){v:Value}(hv:w.cell? a=some v):∃v',w'.cell? a'=some v'∧VR ρ v v':=by
 obtain⟨o,o',h1,h2,ho⟩:=h.obj _ _ ha.1
 cases ho with
 | map k hk=>simp[World.cell?,h1] at hv
 | number l hk=>simp[World.cell?,h1] at hv
 | loop hk=>simp[World.cell?,h1] at hv
 | defs hk=>simp[World.cell?,h1] at hv
 | cells e hc hf=>
   simp only[World.cell?,h1] at hv
   simp only[World.cell?,h2,ha.2.1,ha.2.2]
   split at hv
   ·cases hv
   ·rename_i hs
    simp only[if_neg hs]
    rcases hc.get? a.off with⟨x,_⟩|⟨x,x',e1,e2,e3⟩
    ·rw[x] at hv;cases hv
    ·rw[e1] at hv;cases hv;exact⟨x',e2,e3⟩
theorem KF{ρ:Ren}{w w':World}(h:WR ρ w w'){a a':Addr}(ha:AR ρ a a')(hv:w.frozen? a=false):w'.frozen? a'=false:=by
 obtain⟨o,o',h1,h2,ho⟩:=h.obj _ _ ha.1
 cases ho with
 | map k hk=>simp[World.frozen?,h2]
 | number l hk=>simp[World.frozen?,h2]
 | loop hk=>simp[World.frozen?,h2]
 | defs hk=>simp[World.frozen?,h2]
 | cells e hc hf=>
   rename_i f f'
   obtain⟨lo,hi⟩:=f
   obtain⟨lo',hi'⟩:=f'
   simp only[World.frozen?,h1] at hv
   simp only[World.frozen?,h2,ha.2.1]
   by_cases c:lo'≤a.off∧a.off<hi'
   ·have:=hf a.off c.1 c.2
    simp only at this
    simp[this.1,this.2] at hv
   ·simp only[Bool.and_eq_false_iff,decide_eq_false_iff_not]
    omega
theorem Bs{ρ:Ren}{w w':World}(h:WR ρ w w'){a:Addr}{b':Nat}(ha:ρ a.block=some b')(at_:Bool):∃e,w.farLoad P a at_=.error e:=by
 obtain⟨o,o',h1,h2,ho⟩:=h.obj _ _ ha
 cases ho <;> exact⟨_,by simp only[World.farLoad,h1];rfl⟩
theorem mw{ρ:Ren}{w w':World}(h:WR ρ w w'){a:Addr}{b':Nat}(ha:ρ a.block=some b')(v:Value)(at_:Bool):∃e,w.farStore P a v at_=.error e:=by
 obtain⟨o,o',h1,h2,ho⟩:=h.obj _ _ ha
 cases ho <;> exact⟨_,by simp only[World.farStore,h1];rfl⟩
theorem gF(w:World)(a:Addr)(v:Value){b:Nat}(h:b≠a.block):(w.setCell a v).heap[b]? =w.heap[b]?:=by
 simp[World.setCell,Array.getElem?_modify,Ne.symm h]
theorem nK(w:World)(a:Addr)(v:Value){c:Array Value}{e:TypeId}{f:Nat × Nat}(h:w.heap[a.block]? =some (.cells c e f)):
 (w.setCell a v).heap[a.block]? =some (.cells (if a.spot.isSome then c else c.setIfInBounds a.off v) e f):=by
 simp[World.setCell,Array.getElem?_modify,h]
theorem size_setCell(w:World)(a:Addr)(v:Value):(w.setCell a v).heap.size=w.heap.size:=by simp[World.setCell]
theorem WR.setCell{ρ:Ren}{w w':World}(h:WR ρ w w'){a a':Addr}(ha:AR ρ a a'){v v':Value}(hv:VR ρ v v'):WR ρ (w.setCell a v) (w'.setCell a' v'):=by
 refine⟨fun b b' e=>?_,h.inj⟩
 obtain⟨o,o',h1,h2,ho⟩:=h.obj b b' e
 by_cases hb:b=a.block
 ·subst hb
  have hb':b'=a'.block:=by have:=ha.1;rw[e] at this;exact Option.some.inj this
  subst hb'
  cases ho with
  | map k hk=>
    refine⟨_,_,?_,?_,.map k hk⟩
    ·simp[World.setCell,Array.getElem?_modify,h1]
    ·simp[World.setCell,Array.getElem?_modify,h2]
  | number k hk=>
    refine⟨_,_,?_,?_,.number k hk⟩
    ·simp[World.setCell,Array.getElem?_modify,h1]
    ·simp[World.setCell,Array.getElem?_modify,h2]
  | loop hk=>
    refine⟨_,_,?_,?_,.loop hk⟩
    ·simp[World.setCell,Array.getElem?_modify,h1]
    ·simp[World.setCell,Array.getElem?_modify,h2]
  | defs hk=>
    refine⟨_,_,?_,?_,.defs hk⟩
    ·simp[World.setCell,Array.getElem?_modify,h1]
    ·simp[World.setCell,Array.getElem?_modify,h2]
  | cells e1 hc hf=>
    refine⟨_,_,nK w a v h1,nK w' a' v' h2,?_⟩
    rw[ha.2.1,ha.2.2]
    split
    ·exact .cells e1 hc hf
    ·exact .cells e1 (hc.set _ hv) hf
 ·have hb':b'≠a'.block:=fun e2=>hb (h.inj _ _ _ e (by rw[e2];exact ha.1))
  exact⟨o,o',by rw[gF _ _ _ hb];exact h1,by rw[gF _ _ _ hb'];exact h2,ho⟩
theorem Fz.setCell{w:World}{a:Addr}{v:Value}{b:Nat}(h:Fz w b)(ha:∀c e f,w.heap[a.block]? =some (.cells c e f)→¬ (f.1≤a.off∧a.off<f.2)∧a.off<c.size):Fz (w.setCell a v) b:=by
 obtain⟨c,e,f,h1,h2⟩:=h
 by_cases hb:b=a.block
 ·subst hb
  obtain⟨h3,h4⟩:=ha c e f h1
  exact absurd (h2 _ h4) h3
 ·exact⟨c,e,f,by rw[gF _ _ _ hb];exact h1,h2⟩
theorem IC{ρ:Ren}{C O:Nat→Prop}{w:World}(hc:∀b b',ρ b=some b'→(Fz w b∧C b')∨O b'){a a':Addr}(ha:AR ρ a a'){v:Value}(hv:w.cell? a=some v)(hf:w.frozen? a=false):O a'.block:=by
 rcases hc _ _ ha.1 with⟨⟨c,e,f,h1,h2⟩,_⟩|h
 ·obtain⟨lo,hi⟩:=f
  simp only[World.cell?,h1] at hv
  split at hv
  ·cases hv
  ·have:=h2 a.off (Array.getElem?_eq_some_iff.1 hv).1
   simp only[World.frozen?,h1] at hf
   simp only at this
   simp[this.1,this.2] at hf
 ·exact h
theorem kI.draw{w w':World}(h:kI w w'):kI {w with drawn:=w.drawn+1 } {w' with drawn:=w'.drawn+1 }:=by
 intro k q
 have:=h (1+k) q
 simpa only[Nat.add_assoc] using this
def Ren.put(ρ:Ren)(b b':Nat):Ren:=fun x=>if x=b then some b' else ρ x
theorem WR.new{ρ:Ren}{w w':World}(h:WR ρ w w'){o o':Obj}(ho:OR ρ o o'):Le ρ (Ren.put ρ w.heap.size w'.heap.size)∧WR (Ren.put ρ w.heap.size w'.heap.size) {w with heap:=w.heap.push o } {w' with heap:=w'.heap.push o' }:=by
 have le:Le ρ (Ren.put ρ w.heap.size w'.heap.size):=fun b b' e=>by
  have:=(h.lt e).1
  simp only[Ren.put]
  rw[if_neg zo];exact e
 refine⟨le,⟨fun b b' e=>?_,fun a b c ea eb=>?_⟩⟩
 ·simp only[Ren.put] at e
  split at e
  ·rename_i hb
   subst hb;cases e
   exact⟨o,o',zs,zs,ho.mono le⟩
  ·obtain⟨x,x',h1,h2,h3⟩:=h.obj b b' e
   have l1:=(h.lt e).1
   have l2:=(h.lt e).2
   exact⟨x,x',by simp only[Array.getElem?_push_lt l1];rw[← h1,Array.getElem?_eq_getElem l1],by simp only[Array.getElem?_push_lt l2];rw[← h2,Array.getElem?_eq_getElem l2],h3.mono le⟩
 ·simp only[Ren.put] at ea eb
  split at ea <;> split at eb
  ·omega
  ·cases ea;have:=(h.lt eb).2;omega
  ·cases eb;have:=(h.lt ea).2;omega
  ·exact h.inj _ _ _ ea eb
theorem Fz.push{w:World}{o:Obj}{b:Nat}(h:Fz w b):Fz {w with heap:=w.heap.push o } b:=by
 obtain⟨c,e,f,h1,h2⟩:=h
 have l:=(Array.getElem?_eq_some_iff.1 h1).1
 exact⟨c,e,f,by simp only[Array.getElem?_push_lt l];rw[← h1,Array.getElem?_eq_getElem l],h2⟩
theorem Qq{ρ:Ren}{w w':World}(h:WR ρ w w'){r r':Nat}(e:ρ r=some r'):w'.shape? r'=w.shape? r:=by
 obtain⟨o,o',h1,h2,ho⟩:=h.obj _ _ e
 cases ho with
 | map k hk=>simp[World.shape?,h1,h2]
 | number k hk=>simp[World.shape?,h1,h2]
 | loop hk=>simp[World.shape?,h1,h2]
 | defs hk=>simp[World.shape?,h1,h2]
 | cells e hc hf=>simp[World.shape?,h1,h2,hc.1]
theorem WR.setObj{ρ:Ren}{w w':World}(h:WR ρ w w'){r r':Nat}(e:ρ r=some r'){o o':Obj}(ho:OR ρ o o'):WR ρ {w with heap:=w.heap.setIfInBounds r o } {w' with heap:=w'.heap.setIfInBounds r' o' }:=by
 refine⟨fun b b' eb=>?_,h.inj⟩
 by_cases hb:b=r
 ·subst hb
  have hb':b'=r':=by rw[e] at eb;exact(Option.some.inj eb).symm
  subst hb'
  obtain⟨l1,l2⟩:=h.lt e
  exact⟨o,o',by simp[l1],by simp[l2],ho⟩
 ·have hb':b'≠r':=fun e2=>hb (h.inj _ _ _ eb (by rw[e2];exact e))
  obtain⟨x,x',h1,h2,h3⟩:=h.obj b b' eb
  exact⟨x,x',by simp only[Array.getElem?_setIfInBounds_ne (Ne.symm hb)];exact h1,by simp only[Array.getElem?_setIfInBounds_ne (Ne.symm hb')];exact h2,h3⟩
theorem YK{ρ:Ren}{v v':Value}(h:VR ρ v v')(h1:∀c,v≠.agg c)(h2:∀c,v≠.tuple c):(∀c,v'≠.agg c)∧(∀c,v'≠.tuple c):=by
 cases h <;> first|exact absurd rfl (h1 _)|exact absurd rfl (h2 _)|exact⟨zs,zs⟩
theorem run_store{α:Type}{m:Mode}{a:Addr}{v:Value}{k:Sem α}{w:World}(h1:∀c,v≠.agg c)(h2:∀c,v≠.tuple c):(Sem.store m a v k).run P w=match w.cell? a with
 | some _=>if w.frozen? a then .halt (.unsupported (.unsafePointer "a write to bytes that a string shares")) w else k.run P (w.setCell a v)
 | none=>match w.farStore P a v (m == .atomic) with
   | .ok (w,_)=>k.run P w
   | .error h=>.halt h w:=by
 cases v <;> first|rfl|exact absurd rfl (h1 _)|exact absurd rfl (h2 _)
theorem LU{α:Type}{m:Mode}{a:Addr}{v:Value}{k:Sem α}{w:World}{es:Array Event}(h1:∀c,v≠.agg c)(h2:∀c,v≠.tuple c){x:Value}(hx:w.cell? a=some x)(hf:w.frozen? a=false):
 (Sem.store m a v k).runT P w es=k.runT P (w.setCell a v) (es.push ⟨.cell a,true,m == .atomic⟩):=by
 have e:(Sem.store m a v k).runT P w es=match w.cell? a with
  | some _=>
    if w.frozen? a then(.halt (.unsupported (.unsafePointer "a write to bytes that a string shares")) w,es)
    else k.runT P (w.setCell a v) (es.push ⟨.cell a,true,m == .atomic⟩)
  | none=>match w.farStore P a v (m == .atomic) with
    | .ok (w,touched)=>k.runT P w (es ++ touched.toArray.map (⟨.cell ·,true,m == .atomic⟩))
    | .error h=>(.halt h w,es):=by
  cases v <;> first|rfl|exact absurd rfl (h1 _)|exact absurd rfl (h2 _)
 rw[e,hx]
 simp[hf]
theorem Ran.trans{C O O1 O2:Nat→Prop}{ρ ρ1 ρ2:Ren}{w w1 w2 v v1 v2:World}{n m:List Event}(h:Ran C O O1 ρ ρ1 w w1 v v1 n)(k:Ran C O1 O2 ρ1 ρ2 w1 w2 v1 v2 m):Ran C O O2 ρ ρ2 w w2 v v2 (n ++ m):=by
 refine⟨h.le.trans k.le,k.wr,k.tuned,k.tape.trans h.tape,k.os.trans h.os,k.output.trans h.output,Nat.le_trans h.size k.size,fun b hb ho=>?_,fun b=>?_,k.cl,fun e he=>?_⟩
 ·rw[k.other b (Nat.lt_of_lt_of_le hb h.size) (fun o1=>by rcases(h.own b).1 o1 with o|⟨o,_⟩;exact ho o;omega)]
  exact h.other b hb ho
 ·rw[k.own,h.own]
  have:=h.size
  have:=k.size
  constructor
  ·rintro((a|⟨a,b⟩)|⟨a,b⟩)
   ·exact .inl a
   ·exact .inr ⟨a,zo⟩
   ·exact .inr ⟨zo,b⟩
  ·rintro(a|⟨a,b⟩)
   ·exact .inl (.inl a)
   ·rcases Nat.lt_or_ge ‹Nat› v1.heap.size with c|c
    ·exact .inl (.inr ⟨a,c⟩)
    ·exact .inr ⟨c,b⟩
 ·rcases List.mem_append.1 he with he|he
  ·rcases h.evs e he with e0|⟨s,q⟩
   ·exact .inl e0
   refine .inr ⟨s,?_⟩
   rcases q with⟨a,ea,q|q⟩|⟨r,er,q⟩
   ·exact .inl ⟨a,ea,.inl ((k.own _).2 (.inl q))⟩
   ·exact .inl ⟨a,ea,.inr q⟩
   ·exact .inr ⟨r,er,(k.own _).2 (.inl q)⟩
  ·exact k.evs e he
theorem Ran.still{C O:Nat→Prop}{ρ:Ren}{w w1 v v1:World}{n:List Event}(wr:WR ρ w1 v1)(tu:kI w1 v1)(tape:v1.tape=v.tape)(os:v1.os=v.os)(out:v1.output=v.output)(size:v1.heap.size=v.heap.size)
 (other:∀b,b<v.heap.size→¬ O b→v1.heap[b]? =v.heap[b]?)(cl:∀b b',ρ b=some b'→(Fz w1 b∧C b')∨O b')(evs:∀e∈n,RH O C e):Ran C O O ρ ρ w w1 v v1 n:=
 ⟨.refl ρ,wr,tu,tape,os,out,zo,other,fun b=>⟨.inl,fun h=>h.elim id fun⟨a,b⟩=>zo⟩,cl,evs⟩
theorem Dead.run{α:Type}{s:Sem α}(h:Dead s):∀w:World,(∀a w1,s.run P w≠.ok a w1)∧∀e w1,s.run P w=.halt e w1→um e:=by
 induction s with
 | shape r k ih=>intro w;exact ih _ (h _) w
 | frozen r k ih=>intro w;exact ih _ (h _) w
 | choose q k ih=>
   intro w
   simp only[Sem.run]
   split
   ·exact ih _ (h _) _
   ·exact ih _ (h _) _
 | mark m k ih=>intro w;exact ih h w
 | halt e=>intro w;exact⟨fun a w1 e=>by simp[Sem.run] at e,fun e' w1 e2=>by simp only[Sem.run,Result.halt.injEq] at e2;rw[← e2.1];exact h⟩
 | _=>exact h.elim
theorem SR.runT{α β:Type}{Q:Ren→α→β→Prop}{C:Nat→Prop}{s:Sem α}:∀ {ρ:Ren} {s':Sem β} {w w':World} {O:Nat→Prop} {es:Array Event},SR P Q ρ s s'→WR ρ w w'→kI w w'→
 (∀b b',ρ b=some b'→(Fz w b∧C b')∨O b')→∀ {a:α} {w1:World},s.run P w=.ok a w1→
 ∃ρ1 b w1' O1 new,s'.runT P w' es=(.ok b w1',es ++ new.toArray)∧Q ρ1 a b∧Ran C O O1 ρ ρ1 w w1 w' w1' new:=by
 induction s with
 | pure a=>
   rintro ρ s' w w' O es ⟨b,rfl,hq⟩ hw ht hc a' w1 hr
   simp only[Sem.run,Result.ok.injEq] at hr
   obtain⟨rfl,rfl⟩:=hr
   exact⟨ρ,b,w',O,[],by simp[Sem.runT],hq,.still hw ht rfl rfl rfl rfl (fun _ _ _=>rfl) hc zs⟩
 | load m a k ih=>
   rintro ρ s' w w' O es ⟨a',k',rfl,rfl,ha,hk⟩ hw ht hc x w1 hr
   cases hv:w.cell? a with
   | none=>
     obtain⟨e,he⟩:=Bs (P:=P) hw ha.1 (a:=a) (Mode.plain == Mode.atomic)
     simp only[Sem.run,hv,he] at hr
     cases hr
   | some v=>
     obtain⟨v',hv',yr⟩:=sw hw ha hv
     simp only[Sem.run,hv] at hr
     obtain⟨ρ1,b,w1',O1,new,h1,h2,h3⟩:=ih v (es:=es.push ⟨.cell a',false,false⟩) (hk ρ (.refl hw.inj) v v' yr) hw ht hc hr
     refine⟨ρ1,b,w1',O1,⟨.cell a',false,false⟩ :: new,?_,h2,?_⟩
     ·simp only[Sem.runT,hv']
      have:(Mode.plain == Mode.atomic)=false:=rfl
      rw[this,h1];simp
     ·refine Ran.trans (n:=[⟨.cell a',false,false⟩]) (.still hw ht rfl rfl rfl rfl (fun _ _ _=>rfl) hc ?_) h3
      intro e he
      simp only[List.mem_singleton] at he
      subst he
      refine .inr ⟨rfl,.inl ⟨a',rfl,?_⟩⟩
      rcases hc _ _ ha.1 with h|h
      ·exact .inr ⟨rfl,h.2⟩
      ·exact .inl h
 | store m a v k ih=>
   rintro ρ s' w w' O es ⟨a',v',k',rfl,rfl,ha,hv,hk⟩ hw ht hc x w1 hr
   by_cases h1:∀c,v≠.agg c
   ·by_cases h2:∀c,v≠.tuple c
    ·obtain⟨h1',h2'⟩:=YK hv h1 h2
     rw[run_store h1 h2] at hr
     cases hx:w.cell? a with
     | none=>
       obtain⟨e,he⟩:=mw (P:=P) hw ha.1 (a:=a) v (Mode.plain == Mode.atomic)
       simp only[hx,he] at hr
       cases hr
     | some x0=>
       simp only[hx] at hr
       cases hf:w.frozen? a with
       | true=>simp only[hf,if_true] at hr;cases hr
       | false=>
         simp only[hf,Bool.false_eq_true,if_false] at hr
         obtain⟨x0',hx',_⟩:=sw hw ha hx
         have hf':=KF hw ha hf
         have hO:=IC hc ha hx hf
         have hc2:∀b b',ρ b=some b'→(Fz (w.setCell a v) b∧C b')∨O b':=fun b b' e=>by
          rcases hc b b' e with⟨h,hC⟩|h
          ·refine .inl ⟨h.setCell fun c e f hh=>?_,hC⟩
           simp only[World.cell?,hh] at hx
           simp only[World.frozen?,hh] at hf
           split at hx
           ·cases hx
           ·refine⟨fun⟨p,q⟩=>?_,(Array.getElem?_eq_some_iff.1 hx).1⟩
            simp[p,q] at hf
          ·exact .inr h
         have ht2:kI (w.setCell a v) (w'.setCell a' v'):=ht
         obtain⟨ρ1,b,w1',O1,new,r1,r2,r3⟩:=ih (es:=es.push ⟨.cell a',true,false⟩) hk (hw.setCell ha hv) ht2 hc2 hr
         refine⟨ρ1,b,w1',O1,⟨.cell a',true,false⟩ :: new,?_,r2,?_⟩
         ·rw[LU h1' h2' hx' hf']
          have:(Mode.plain == Mode.atomic)=false:=rfl
          rw[this,r1];simp
         ·refine Ran.trans (n:=[⟨.cell a',true,false⟩]) (.still (hw.setCell ha hv) ht2 rfl rfl rfl (size_setCell _ _ _) (fun b _ ho=>gF _ _ _ (fun e=>ho (e ▸ hO))) hc2 ?_) r3
          intro e he
          simp only[List.mem_singleton] at he
          subst he
          exact .inr ⟨rfl,.inl ⟨a',rfl,.inl hO⟩⟩
    ·simp only[ne_eq,Classical.not_forall,Classical.not_not] at h2
     obtain⟨c,rfl⟩:=h2
     simp only[Sem.run] at hr
     cases hr
   ·simp only[ne_eq,Classical.not_forall,Classical.not_not] at h1
    obtain⟨c,rfl⟩:=h1
    simp only[Sem.run] at hr
    cases hr
 | new o k ih=>
   rintro ρ s' w w' O es ⟨o',k',rfl,ho,hk⟩ hw ht hc x w1 hr
   simp only[Sem.run] at hr
   obtain⟨le,hw2⟩:=hw.new ho
   have hc2:∀b b',Ren.put ρ w.heap.size w'.heap.size b=some b'→(Fz {w with heap:=w.heap.push o } b∧C b')∨(O b'∨b'=w'.heap.size):=fun b b' e=>by
    simp only[Ren.put] at e
    split at e
    ·cases e;exact .inr (.inr rfl)
    ·rcases hc b b' e with⟨h,hC⟩|h
     ·exact .inl ⟨h.push,hC⟩
     ·exact .inr (.inl h)
   have ht2:kI {w with heap:=w.heap.push o } {w' with heap:=w'.heap.push o' }:=ht
   obtain⟨ρ1,b,w1',O1,new,r1,r2,r3⟩:=ih w.heap.size (es:=es) (hk _ ⟨le,hw2.inj⟩ w.heap.size w'.heap.size (by simp[Ren.put])) hw2 ht2 hc2 hr
   refine⟨ρ1,b,w1',O1,new,?_,r2,?_⟩
   ·simp only[Sem.runT];exact r1
   ·have h0:Ran C O (fun b=>O b∨b=w'.heap.size) ρ (Ren.put ρ w.heap.size w'.heap.size) w {w with heap:=w.heap.push o } w' {w' with heap:=w'.heap.push o' } []:=by
     refine⟨le,hw2,ht2,rfl,rfl,rfl,zs,fun b hb _=>by simp only[Array.getElem?_push_lt hb];rw[Array.getElem?_eq_getElem hb],fun b=>?_,hc2,zs⟩
     simp only[Array.size_push]
     constructor
     ·rintro(h|h)
      ·exact .inl h
      ·exact .inr zo
     ·rintro(h|h)
      ·exact .inl h
      ·exact .inr zo
    have:=h0.trans r3
    simpa using this
 | shape r k ih=>
   rintro ρ s' w w' O es ⟨r',k',rfl,e,hk⟩ hw ht hc x w1 hr
   simp only[Sem.run] at hr
   obtain⟨ρ1,b,w1',O1,new,h1,h2,h3⟩:=ih (w.shape? r) (es:=es) (hk _) hw ht hc hr
   exact⟨ρ1,b,w1',O1,new,by simp only[Sem.runT,Qq hw e];exact h1,h2,h3⟩
 | getObj r k ih=>
   rintro ρ s' w w' O es ⟨r',k',rfl,e,hk⟩ hw ht hc x w1 hr
   obtain⟨o,o',h1,h2,ho⟩:=hw.obj _ _ e
   cases ho with
   | cells e1 hc1 hf1=>simp only[Sem.run,h1] at hr;cases hr
   | map c hm=>
     simp only[Sem.run,h1] at hr
     obtain⟨ρ1,b,w1',O1,new,r1,r2,r3⟩:=ih _ (es:=es.push ⟨.obj r',false,false⟩) (hk ρ (.refl hw.inj) _ _ (.map c hm)) hw ht hc hr
     refine⟨ρ1,b,w1',O1,⟨.obj r',false,false⟩ :: new,?_,r2,?_⟩
     ·simp only[Sem.runT,h2]
      show(k' _).runT P w' (es.push ⟨.obj r',false,false⟩)=_
      rw[r1];simp
     ·refine Ran.trans (n:=[⟨.obj r',false,false⟩]) (.still hw ht rfl rfl rfl rfl (fun _ _ _=>rfl) hc ?_) r3
      intro e' he
      simp only[List.mem_singleton] at he
      subst he
      refine .inr ⟨rfl,.inr ⟨r',rfl,?_⟩⟩
      rcases hc _ _ e with⟨⟨c,e2,f,h3,_⟩,_⟩|h
      ·rw[h1] at h3;cases h3
      ·exact h
   | number c hm=>
     simp only[Sem.run,h1] at hr
     obtain⟨ρ1,b,w1',O1,new,r1,r2,r3⟩:=ih _ (es:=es.push ⟨.obj r',false,false⟩) (hk ρ (.refl hw.inj) _ _ (.number c hm)) hw ht hc hr
     refine⟨ρ1,b,w1',O1,⟨.obj r',false,false⟩ :: new,?_,r2,?_⟩
     ·simp only[Sem.runT,h2]
      show(k' _).runT P w' (es.push ⟨.obj r',false,false⟩)=_
      rw[r1];simp
     ·refine Ran.trans (n:=[⟨.obj r',false,false⟩]) (.still hw ht rfl rfl rfl rfl (fun _ _ _=>rfl) hc ?_) r3
      intro e' he
      simp only[List.mem_singleton] at he
      subst he
      refine .inr ⟨rfl,.inr ⟨r',rfl,?_⟩⟩
      rcases hc _ _ e with⟨⟨c,e2,f,h3,_⟩,_⟩|h
      ·rw[h1] at h3;cases h3
      ·exact h
   | loop hm=>
     simp only[Sem.run,h1] at hr
     obtain⟨ρ1,b,w1',O1,new,r1,r2,r3⟩:=ih _ (es:=es.push ⟨.obj r',false,false⟩) (hk ρ (.refl hw.inj) _ _ (.loop hm)) hw ht hc hr
     refine⟨ρ1,b,w1',O1,⟨.obj r',false,false⟩ :: new,?_,r2,?_⟩
     ·simp only[Sem.runT,h2]
      show(k' _).runT P w' (es.push ⟨.obj r',false,false⟩)=_
      rw[r1];simp
     ·refine Ran.trans (n:=[⟨.obj r',false,false⟩]) (.still hw ht rfl rfl rfl rfl (fun _ _ _=>rfl) hc ?_) r3
      intro e' he
      simp only[List.mem_singleton] at he
      subst he
      refine .inr ⟨rfl,.inr ⟨r',rfl,?_⟩⟩
      rcases hc _ _ e with⟨⟨c,e2,f,h3,_⟩,_⟩|h
      ·rw[h1] at h3;cases h3
      ·exact h
   | defs hm=>
     simp only[Sem.run,h1] at hr
     obtain⟨ρ1,b,w1',O1,new,r1,r2,r3⟩:=ih _ (es:=es.push ⟨.obj r',false,false⟩) (hk ρ (.refl hw.inj) _ _ (.defs hm)) hw ht hc hr
     refine⟨ρ1,b,w1',O1,⟨.obj r',false,false⟩ :: new,?_,r2,?_⟩
     ·simp only[Sem.runT,h2]
      show(k' _).runT P w' (es.push ⟨.obj r',false,false⟩)=_
      rw[r1];simp
     ·refine Ran.trans (n:=[⟨.obj r',false,false⟩]) (.still hw ht rfl rfl rfl rfl (fun _ _ _=>rfl) hc ?_) r3
      intro e' he
      simp only[List.mem_singleton] at he
      subst he
      refine .inr ⟨rfl,.inr ⟨r',rfl,?_⟩⟩
      rcases hc _ _ e with⟨⟨c,e2,f,h3,_⟩,_⟩|h
      ·rw[h1] at h3;cases h3
      ·exact h
 | setObj r o k ih=>
   rintro ρ s' w w' O es ⟨r',o',k',rfl,e,ho,hk⟩ hw ht hc x w1 hr
   obtain⟨p,p',h1,h2,hp⟩:=hw.obj _ _ e
   cases hp with
   | cells e1 hc1 hf1=>simp only[Sem.run,h1] at hr;cases hr
   | map c hm=>
     simp only[Sem.run,h1] at hr
     have hO:O r':=by
      rcases hc _ _ e with⟨⟨c,e2,f,h3,_⟩,_⟩|h
      ·rw[h1] at h3;cases h3
      ·exact h
     have hw2:=hw.setObj e ho
     have hc2:∀b b',ρ b=some b'→(Fz {w with heap:=w.heap.setIfInBounds r o } b∧C b')∨O b':=fun b b' eb=>by
      rcases hc b b' eb with⟨⟨c,e2,f,h3,h4⟩,hC⟩|h
      ·refine .inl ⟨⟨c,e2,f,?_,h4⟩,hC⟩
       have:r≠b:=fun er=>by subst er;rw[h1] at h3;cases h3
       simp only[Array.getElem?_setIfInBounds_ne this];exact h3
      ·exact .inr h
     have ht2:kI {w with heap:=w.heap.setIfInBounds r o } {w' with heap:=w'.heap.setIfInBounds r' o' }:=ht
     obtain⟨ρ1,b,w1',O1,new,r1,r2,r3⟩:=ih (es:=es.push ⟨.obj r',true,o'.isChan⟩) hk hw2 ht2 hc2 hr
     have hch:o'.isChan=false:=by cases ho <;> rfl
     refine⟨ρ1,b,w1',O1,⟨.obj r',true,false⟩ :: new,?_,r2,?_⟩
     ·simp only[Sem.runT,h2]
      rw[r1,hch];simp
     ·refine Ran.trans (n:=[⟨.obj r',true,false⟩]) (.still hw2 ht2 rfl rfl rfl zs (fun b _ hb=>?_) hc2 ?_) r3
      ·have:r'≠b:=fun er=>hb (er ▸ hO)
       simp only[Array.getElem?_setIfInBounds_ne this]
      ·intro e' he
       simp only[List.mem_singleton] at he
       subst he
       exact .inr ⟨rfl,.inr ⟨r',rfl,hO⟩⟩
   | number c hm=>
     simp only[Sem.run,h1] at hr
     have hO:O r':=by
      rcases hc _ _ e with⟨⟨c,e2,f,h3,_⟩,_⟩|h
      ·rw[h1] at h3;cases h3
      ·exact h
     have hw2:=hw.setObj e ho
     have hc2:∀b b',ρ b=some b'→(Fz {w with heap:=w.heap.setIfInBounds r o } b∧C b')∨O b':=fun b b' eb=>by
      rcases hc b b' eb with⟨⟨c,e2,f,h3,h4⟩,hC⟩|h
      ·refine .inl ⟨⟨c,e2,f,?_,h4⟩,hC⟩
       have:r≠b:=fun er=>by subst er;rw[h1] at h3;cases h3
       simp only[Array.getElem?_setIfInBounds_ne this];exact h3
      ·exact .inr h
     have ht2:kI {w with heap:=w.heap.setIfInBounds r o } {w' with heap:=w'.heap.setIfInBounds r' o' }:=ht
     obtain⟨ρ1,b,w1',O1,new,r1,r2,r3⟩:=ih (es:=es.push ⟨.obj r',true,o'.isChan⟩) hk hw2 ht2 hc2 hr
     have hch:o'.isChan=false:=by cases ho <;> rfl
     refine⟨ρ1,b,w1',O1,⟨.obj r',true,false⟩ :: new,?_,r2,?_⟩
     ·simp only[Sem.runT,h2]
      rw[r1,hch];simp
     ·refine Ran.trans (n:=[⟨.obj r',true,false⟩]) (.still hw2 ht2 rfl rfl rfl zs (fun b _ hb=>?_) hc2 ?_) r3
      ·have:r'≠b:=fun er=>hb (er ▸ hO)
       simp only[Array.getElem?_setIfInBounds_ne this]
      ·intro e' he
       simp only[List.mem_singleton] at he
       subst he
       exact .inr ⟨rfl,.inr ⟨r',rfl,hO⟩⟩
   | loop hm=>
     simp only[Sem.run,h1] at hr
     have hO:O r':=by
      rcases hc _ _ e with⟨⟨c,e2,f,h3,_⟩,_⟩|h
      ·rw[h1] at h3;cases h3
      ·exact h
     have hw2:=hw.setObj e ho
     have hc2:∀b b',ρ b=some b'→(Fz {w with heap:=w.heap.setIfInBounds r o } b∧C b')∨O b':=fun b b' eb=>by
      rcases hc b b' eb with⟨⟨c,e2,f,h3,h4⟩,hC⟩|h
      ·refine .inl ⟨⟨c,e2,f,?_,h4⟩,hC⟩
       have:r≠b:=fun er=>by subst er;rw[h1] at h3;cases h3
       simp only[Array.getElem?_setIfInBounds_ne this];exact h3
      ·exact .inr h
     have ht2:kI {w with heap:=w.heap.setIfInBounds r o } {w' with heap:=w'.heap.setIfInBounds r' o' }:=ht
     obtain⟨ρ1,b,w1',O1,new,r1,r2,r3⟩:=ih (es:=es.push ⟨.obj r',true,o'.isChan⟩) hk hw2 ht2 hc2 hr
     have hch:o'.isChan=false:=by cases ho <;> rfl
     refine⟨ρ1,b,w1',O1,⟨.obj r',true,false⟩ :: new,?_,r2,?_⟩
     ·simp only[Sem.runT,h2]
      rw[r1,hch];simp
     ·refine Ran.trans (n:=[⟨.obj r',true,false⟩]) (.still hw2 ht2 rfl rfl rfl zs (fun b _ hb=>?_) hc2 ?_) r3
      ·have:r'≠b:=fun er=>hb (er ▸ hO)
       simp only[Array.getElem?_setIfInBounds_ne this]
      ·intro e' he
       simp only[List.mem_singleton] at he
       subst he
       exact .inr ⟨rfl,.inr ⟨r',rfl,hO⟩⟩
   | defs hm=>
     simp only[Sem.run,h1] at hr
     have hO:O r':=by
      rcases hc _ _ e with⟨⟨c,e2,f,h3,_⟩,_⟩|h
      ·rw[h1] at h3;cases h3
      ·exact h
     have hw2:=hw.setObj e ho
     have hc2:∀b b',ρ b=some b'→(Fz {w with heap:=w.heap.setIfInBounds r o } b∧C b')∨O b':=fun b b' eb=>by
      rcases hc b b' eb with⟨⟨c,e2,f,h3,h4⟩,hC⟩|h
      ·refine .inl ⟨⟨c,e2,f,?_,h4⟩,hC⟩
       have:r≠b:=fun er=>by subst er;rw[h1] at h3;cases h3
       simp only[Array.getElem?_setIfInBounds_ne this];exact h3
      ·exact .inr h
     have ht2:kI {w with heap:=w.heap.setIfInBounds r o } {w' with heap:=w'.heap.setIfInBounds r' o' }:=ht
     obtain⟨ρ1,b,w1',O1,new,r1,r2,r3⟩:=ih (es:=es.push ⟨.obj r',true,o'.isChan⟩) hk hw2 ht2 hc2 hr
     have hch:o'.isChan=false:=by cases ho <;> rfl
     refine⟨ρ1,b,w1',O1,⟨.obj r',true,false⟩ :: new,?_,r2,?_⟩
     ·simp only[Sem.runT,h2]
      rw[r1,hch];simp
     ·refine Ran.trans (n:=[⟨.obj r',true,false⟩]) (.still hw2 ht2 rfl rfl rfl zs (fun b _ hb=>?_) hc2 ?_) r3
      ·have:r'≠b:=fun er=>hb (er ▸ hO)
       simp only[Array.getElem?_setIfInBounds_ne this]
      ·intro e' he
       simp only[List.mem_singleton] at he
       subst he
       exact .inr ⟨rfl,.inr ⟨r',rfl,hO⟩⟩
 | choose q k ih=>
   rintro ρ s' w w' O es ⟨k',rfl,hk⟩ hw ht hc x w1 hr
   simp only[Sem.run] at hr
   by_cases hf:q.forced=true
   ·rw[if_pos hf] at hr
    obtain⟨ρ1,b,w1',O1,new,h1,h2,h3⟩:=ih 0 (es:=es) (hk _) hw ht hc hr
    exact⟨ρ1,b,w1',O1,new,by simp only[Sem.runT,if_pos hf];exact h1,h2,h3⟩
   ·rw[if_neg hf] at hr
    have hq:w'.tape w'.drawn q=w.tape w.drawn q:=(ht 0 q).symm
    have hw2:WR ρ {w with drawn:=w.drawn+1 } {w' with drawn:=w'.drawn+1 }:=⟨hw.obj,hw.inj⟩
    have hc2:∀b b',ρ b=some b'→(Fz {w with drawn:=w.drawn+1 } b∧C b')∨O b':=hc
    obtain⟨ρ1,b,w1',O1,new,h1,h2,h3⟩:=ih _ (es:=es) (hk (q.cut (w.tape w.drawn q))) hw2 ht.draw hc2 hr
    refine⟨ρ1,b,w1',O1,new,by simp only[Sem.runT,if_neg hf,hq];exact h1,h2,?_⟩
    have:=Ran.trans (n:=[]) (O:=O) (w:=w) (v:=w') (.still hw2 ht.draw rfl rfl rfl rfl (fun _ _ _=>rfl) hc2 zs) h3
    simpa using this
 | program k ih=>
   rintro ρ s' w w' O es ⟨k',rfl,hk⟩ hw ht hc x w1 hr
   simp only[Sem.run] at hr
   obtain⟨ρ1,b,w1',O1,new,h1,h2,h3⟩:=ih P (es:=es) hk hw ht hc hr
   exact⟨ρ1,b,w1',O1,new,by simp only[Sem.runT];exact h1,h2,h3⟩
 | halt h=>intro ρ s' w w' O es _ _ _ _ a w1 hr;simp only[Sem.run] at hr;cases hr
 | freeze a n k ih=>intro ρ s' w w' O es h;exact h.elim
 | frozen a k ih=>intro ρ s' w w' O es h _ _ _ a1 w1 hr;simp only[Sem.run] at hr;exact((h _).run (P:=P) w).1 _ _ hr |>.elim
 | sys c k ih=>intro ρ s' w w' O es h;exact h.elim
 | mark m k ih=>
   rintro ρ s' w w' O es ⟨k',rfl,rfl,hk⟩ hw ht hc x w1 hr
   simp only[Sem.run] at hr
   obtain⟨ρ1,b,w1',O1,new,h1,h2,h3⟩:=ih (es:=es.push ⟨.mark .noRoom,false,true⟩) hk hw ht hc hr
   refine⟨ρ1,b,w1',O1,⟨.mark .noRoom,false,true⟩ :: new,by simp only[Sem.runT];rw[h1];simp,h2,?_⟩
   exact Ran.trans (n:=[⟨.mark .noRoom,false,true⟩]) (.still hw ht rfl rfl rfl rfl (fun _ _ _=>rfl) hc fun e he=>.inl (List.mem_singleton.1 he)) h3
end
section
variable[Inhabited aT]
variable{P:Program}{ρ:Ren}
def mE{α:Type}:Ren→α→α→Prop:=fun _ a b=>a=b
theorem YI{α:Type}:tx (mE (α:=α)):=fun _ _ _ _ _ h=>h
theorem I5{α β:Type}{Q:Ren→α→β→Prop}(why:String)(s':Sem β):SR P Q ρ (stuck why) s':=trivial
theorem yP{α β:Type}{Q:Ren→α→β→Prop}(u:Unsupported)(s':Sem β)(hu:um (.unsupported u):=by trivial):SR P Q ρ (unsupported u) s':=hu
theorem iQ:SR P (fun ρ' a b=>a=P∧b=P) ρ program program:=⟨_,rfl,_,rfl,rfl,rfl⟩
theorem aK(t:TypeId):SR P mE ρ (underlying t) (underlying t):=by
 refine⟨_,rfl,?_⟩
 show SR P mE ρ (match P.underlying t with|some d=>pure d|none=>stuck "no such type") (match P.underlying t with|some d=>pure d|none=>stuck "no such type")
 cases P.underlying t with
 | none=>exact I5 _ _
 | some d=>exact SR.pure rfl
theorem gD(t:TypeId):SR P mE ρ (typeInfo t) (typeInfo t):=by
 refine⟨_,rfl,?_⟩
 show SR P mE ρ (match P.info? t with|some d=>pure d|none=>stuck "no such type") (match P.info? t with|some d=>pure d|none=>stuck "no such type")
 cases P.info? t with
 | none=>exact I5 _ _
 | some d=>exact SR.pure rfl
theorem aU(hi:dL ρ)(t:TypeId):SR P mE ρ (sizeOf t) (sizeOf t):=
 (gD t).bind' hi fun _ _ a b e=>by cases e;exact SR.pure rfl
theorem yI(hi:dL ρ)(t:TypeId):SR P mE ρ (isAgg t) (isAgg t):=
 (aK t).bind' hi fun _ _ a b e=>by
  cases e
  cases a <;> exact SR.pure rfl
def Ow(P:Program)(t:TypeId):Prop:=∀i z,P.info? t=some i→i.zero=some z→∀ρ,VR ρ z z
theorem iX(hi:dL ρ){t:TypeId}(hz:Ow P t):SR P VR ρ (zeroValue t) (zeroValue t):=by
 refine⟨_,rfl,?_⟩
 have e:∀ (o:Option TypeInfo),P.info? t=o→SR P VR ρ (Sem.bind (match o with|some d=>pure d|none=>stuck "no such type") fun i=>(match i.zero with|some v=>pure v|none=>unsupported (.resourceLimit Za):Sem Value))
  (Sem.bind (match o with|some d=>pure d|none=>stuck "no such type") fun i=>(match i.zero with|some v=>pure v|none=>unsupported (.resourceLimit Za):Sem Value)):=by
  intro o ho
  cases o with
  | none=>exact zT
  | some i=>
    show SR P VR ρ (match i.zero with|some v=>pure v|none=>unsupported (.resourceLimit Za)) (match i.zero with|some v=>pure v|none=>unsupported (.resourceLimit Za))
    cases hz0:i.zero with
    | none=>exact yP _ _
    | some z=>exact SR.pure (hz i z ho hz0 ρ)
 exact e _ rfl
theorem AR.add{a a':Addr}(h:AR ρ a a')(n:Nat):AR ρ (a.add n) (a'.add n):=by
 unfold Addr.add
 split
 ·exact h
 ·exact⟨h.1,by simp[h.2.1],rfl⟩
inductive LR (ρ:Ren):List Value→List Value→Prop
 | nil:LR ρ [] []
 | cons {v v':Value} {l l':List Value}:VR ρ v v'→LR ρ l l'→LR ρ (v :: l) (v' :: l')
theorem LR.mono{ρ':Ren}(l:Le ρ ρ'){x x':List Value}(h:LR ρ x x'):LR ρ' x x':=by
 induction h with
 | nil=>exact .nil
 | cons h _ ih=>exact .cons (h.mono l) ih
theorem LR.of:∀ {l l':List Value},l.length=l'.length→(∀ (i:Nat) (h:i<l.length) (h':i<l'.length),VR ρ l[i] l'[i])→LR ρ l l'
 | [],[],_,_=>.nil
 | v :: l,v' :: l',e,h=>.cons (h 0 zs zs) (LR.of (by simpa using e) fun i a b=>h (i+1) (by simpa using a) (by simpa using b))
 | [],_ :: _,e,_=>by simp at e
 | _ :: _,[],e,_=>by simp at e
theorem dW.list{x x':Array Value}(h:dW ρ x x'):LR ρ x.toList x'.toList:=
 LR.of (by simpa using h.1) fun i a b=>by simpa using h.2 i (by simpa using a) (by simpa using b)
theorem Im{a a':Addr}(h:AR ρ a a'):SR P VR ρ (load a) (load a'):=⟨_,_,rfl,rfl,h,fun _ _ v v' hv=>⟨v',rfl,hv⟩⟩
theorem Qz{a a':Addr}(h:AR ρ a a'){v v':Value}(hv:VR ρ v v'):SR P mE ρ (store a v) (store a' v'):=⟨_,_,_,rfl,rfl,h,hv,(),rfl,rfl⟩
theorem sP{a a':Addr}(n:Nat):∀ {ρ:Ren},dL ρ→AR ρ a a'→∀ (i:Nat) {acc acc':Array Value},dW ρ acc acc'→SR P dW ρ (loadCellsFrom a i n acc) (loadCellsFrom a' i n acc'):=by
 induction n with
 | zero=>exact fun _ _ i _ _ h=>SR.pure h
 | succ n ih=>exact fun hi ha i _ _ h=>(Im (ha.add i)).bind' hi fun ρ' l v v' hv=>ih l.2 (ha.mono l.1) (i+1) ((h.mono l.1).push hv)
theorem qy(hi:dL ρ){a a':Addr}(ha:AR ρ a a')(n:Nat):SR P dW ρ (loadCells a n) (loadCells a' n):=sP n hi ha 0 (.nil ρ)
theorem ou{a a':Addr}(hi:dL ρ)(ha:AR ρ a a'){l l':List Value}(h:LR ρ l l')(i:Nat:=0):SR P mE ρ (storeCells a l i) (storeCells a' l' i):=by
 induction h generalizing i with
 | nil=>exact SR.pure rfl
 | cons hv _ ih=>exact(Qz (ha.add i) hv).bind' hi fun ρ' l _ _ _=>(ih (i+1)).mono YI l.1
theorem vE(hi:dL ρ)(t:TypeId){a a':Addr}(ha:AR ρ a a'):SR P VR ρ (loadVar t a) (loadVar t a'):=by
 unfold loadVar
 refine(yI hi t).bind' hi ?_
 intro ρ1 l1 x y e
 cases e
 cases x with
 | false=>exact Im (ha.mono l1.1)
 | true=>
   refine(aU l1.2 t).bind' l1.2 ?_
   intro ρ2 l2 m n e
   cases e
   refine(qy l2.2 (ha.mono (l1.1.trans l2.1)) m).bind' l2.2 ?_
   intro ρ3 _ c c' hc
   exact SR.pure (.agg hc.1 hc.2)
theorem E9(hi:dL ρ)(t:TypeId){a a':Addr}(ha:AR ρ a a'){v v':Value}(hv:VR ρ v v'):SR P mE ρ (storeVar t a v) (storeVar t a' v'):=by
 unfold storeVar
 refine(aU hi t).bind' hi ?_
 intro ρ1 l1 m n e
 cases e
 have hc:=(hv.mono l1.1).cells
 by_cases hm:v.cells.size≠m
 ·have hm':v'.cells.size≠m:=by rw[← hc.1];exact hm
  simp only[if_pos hm,if_pos hm']
  exact zT
 ·have hm':¬ v'.cells.size≠m:=by rw[← hc.1];exact hm
  simp only[if_neg hm,if_neg hm']
  exact ou l1.2 (ha.mono l1.1) hc.list
theorem qY(t:TypeId){c c':Array Value}(h:dW ρ c c'):SR P AR ρ (newRow t c) (newRow t c'):=
 ⟨_,_,rfl,.cells t h (fun o h1 h2=>by simp at h2),fun _ _ r r' hr=>⟨_,rfl,hr,rfl,rfl⟩⟩
theorem yh(t:TypeId){v v':Value}(h:VR ρ v v'):SR P AR ρ (newVar t v) (newVar t v'):=qY t h.cells
theorem iA{v v':Value}(h:VR ρ v v'):SR P AR ρ (Instr.sureAddr v) (Instr.sureAddr v'):=by
 cases h with
 | ptr h=>exact SR.pure h
 | _=>exact zT
theorem Lf(hi:dL ρ)(t:TypeId){v v':Value}(h:VR ρ v v'):SR P VR ρ (Instr.loadAt t v) (Instr.loadAt t v'):=
 (iA h).bind' hi fun _ l _ _ ha=>vE l.2 t ha
theorem Ja(hi:dL ρ)(t:TypeId){a a' v v':Value}(h:VR ρ a a')(hv:VR ρ v v'):SR P mE ρ (Instr.storeAt t a v) (Instr.storeAt t a' v'):=
 (iA h).bind' hi fun _ l _ _ ha=>E9 l.2 t ha (hv.mono l.1)
theorem Oy(hi:dL ρ){t:TypeId}(hz:Ow P t){v v':Value}:SR P VR ρ (Instr.alloc t true v) (Instr.alloc t true v'):=
 (iX hi hz).bind' hi fun ρ1 l1 z z' h=>(yh t h).bind' l1.2 fun _ _ _ _ ha=>SR.pure (.ptr ha)
theorem XG(hi:dL ρ)(t:TypeId){v v':Value}(h:VR ρ v v'):SR P VR ρ (Instr.box t v) (Instr.box t v'):=
 (yh t h).bind' hi fun _ _ _ _ ha=>SR.pure (.ptr ha)
theorem IG(hi:dL ρ)(t:TypeId){c c':Array Value}(h:dW ρ c c')(off:Nat):SR P VR ρ (part t c off) (part t c' off):=by
 unfold part
 refine(yI hi t).bind' hi ?_
 intro ρ1 l1 x y e
 cases e
 cases x with
 | true=>
   refine(aU l1.2 t).bind' l1.2 ?_
   intro ρ2 l2 m n e
   cases e
   have:=(h.mono (l1.1.trans l2.1)).extract off (off+m)
   exact SR.pure (.agg this.1 this.2)
 | false=>
   rcases(h.mono l1.1).get? off with⟨e1,e2⟩|⟨v,v',e1,e2,hv⟩
   ·simp only[e1,e2];exact zT
   ·simp only[e1,e2];exact SR.pure hv
theorem Oz{v v':Value}(h:VR ρ v v'):SR P dW ρ (asAgg v) (asAgg v'):=by
 cases h with
 | agg e h=>exact SR.pure ⟨e,h⟩
 | _=>exact zT
theorem Po(hi:dL ρ)(t:TypeId){v v':Value}(h:VR ρ v v')(i:Nat):SR P VR ρ (Instr.field t v i) (Instr.field t v' i):=by
 unfold Instr.field
 refine(aK t).bind' hi ?_
 intro ρ1 l1 x y e
 cases e
 cases x with
 | struct fs=>
   dsimp only
   cases fs[i]? with
   | none=>exact zT
   | some f=>exact(Oz (h.mono l1.1)).bind' l1.2 fun _ l2 _ _ hc=>IG l2.2 f.type hc f.offset
 | _=>exact zT
theorem GQ{v v':Value}(h:VR ρ v v')(i:Nat):SR P VR ρ (Instr.extract v i) (Instr.extract v' i):=by
 cases h with
 | tuple e h=>
   rename_i x x'
   simp only[Instr.extract]
   rcases(dW.get? ⟨e,h⟩ i:(x[i]? =none∧x'[i]? =none)∨_) with⟨e1,e2⟩|⟨w,w',e1,e2,hv⟩
   ·simp only[e1,e2];exact zT
   ·simp only[e1,e2];exact SR.pure hv
 | _=>exact zT
theorem xR{f:Array Value→Value × Nat→Array Value}{off:Nat}(hf:∀cs c j,f cs (c,j)=cs.setIfInBounds (off+j) c):∀ {l l':List Value},LR ρ l l'→∀ (k:Nat) {c c':Array Value},dW ρ c c'→dW ρ ((l.zipIdx k).foldl f c) ((l'.zipIdx k).foldl f c'):=by
 intro l l' h
 induction h with
 | nil=>exact fun _ _ _ h=>h
 | cons hv _ ih=>
   intro k c c' hc
   simp only[List.zipIdx_cons,List.foldl_cons,hf]
   exact ih (k+1) (hc.set _ hv)
inductive jR (ρ:Ren):List (Nat × Value)→List (Nat × Value)→Prop
 | nil:jR ρ [] []
 | cons (i:Nat) {v v':Value} {l l':List (Nat × Value)}:VR ρ v v'→jR ρ l l'→jR ρ ((i,v) :: l) ((i,v') :: l')
theorem xM(place:Nat→Option (Nat × Nat)):∀ {l l':List (Nat × Value)},jR ρ l l'→∀ {c c':Array Value},dW ρ c c'→
 (Instr.fill place c l=none∧Instr.fill place c' l'=none)∨∃x x',Instr.fill place c l=some x∧Instr.fill place c' l'=some x'∧dW ρ x x':=by
 intro l l' h
 induction h with
 | nil=>exact fun hc=>.inr ⟨_,_,rfl,rfl,hc⟩
 | cons i hv _ ih=>
   rename_i v v' l l' _
   intro c c' hc
   unfold Instr.fill
   cases place i with
   | none=>exact .inl ⟨rfl,rfl⟩
   | some p=>
     obtain⟨off,size⟩:=p
     have hcv:=hv.cells
     dsimp only
     rw[← hcv.1,← hc.1]
     cases (decide (v.cells.size≠size) || decide (off+v.cells.size > c.size)) with
     | true=>exact .inl ⟨rfl,rfl⟩
     | false=>
       refine ih ?_
       have:=xR (ρ:=ρ) (f:=fun cs x=>cs.setIfInBounds (off+x.2) x.1) (off:=off) (fun _ _ _=>rfl) hcv.list 0 hc
       rw[← Array.foldl_toList,← Array.foldl_toList,Array.toList_zipIdx,Array.toList_zipIdx]
       exact this
theorem Lh{α β:Type}(f:α→Sem β)(hf:∀a {ρ:Ren},dL ρ→SR P mE ρ (f a) (f a)):∀l:List α,∀ {ρ:Ren},dL ρ→SR P mE ρ (l.mapM f) (l.mapM f):=by
 intro l
 induction l with
 | nil=>intro ρ hi;simp only[List.mapM_nil];exact SR.pure rfl
 | cons a l ih=>
   intro ρ hi
   simp only[List.mapM_cons]
   refine(hf a hi).bind' hi ?_
   intro ρ1 l1 x y e
   cases e
   refine(ih l1.2).bind' l1.2 ?_
   intro ρ2 l2 x y e
   cases e
   exact SR.pure rfl
theorem PU{α β:Type}(f:α→Sem β)(hf:∀a {ρ:Ren},dL ρ→SR P mE ρ (f a) (f a))(xs:Array α)(hi:dL ρ):SR P mE ρ (xs.mapM f) (xs.mapM f):=by
 rw[Array.mapM_eq_mapM_toList]
 have e:∀ (s:Sem (List β)),(Functor.map List.toArray s)=(s >>= fun l=>pure l.toArray):=fun s=>rfl
 rw[e]
 refine(Lh f hf xs.toList hi).bind' hi ?_
 intro ρ1 l1 x y e
 cases e
 exact SR.pure rfl
theorem OI(hi:dL ρ){t:TypeId}(hz:Ow P t){l l':Array (Nat × Value)}(h:jR ρ l.toList l'.toList)(hm:∀ {ρ'},Le ρ ρ'→jR ρ' l.toList l'.toList):SR P VR ρ (Instr.build t l) (Instr.build t l'):=by
 unfold Instr.build
 refine(iX hi hz).bind' hi ?_
 intro ρ1 l1 z z' hzz
 refine(aK t).bind' l1.2 ?_
 intro ρ2 l2 d d' e
 cases e
 cases d with
 | struct fs=>
   dsimp only
   refine(PU _ (fun f {ρ'} hi'=>(aU hi' f.type).bind' hi' fun _ _ _ _ e=>by cases e;exact SR.pure rfl) fs l2.2).bind' l2.2 ?_
   intro ρ3 l3 p p' e
   cases e
   rcases xM (ρ:=ρ3) (p[·]?) (hm (l1.1.trans (l2.1.trans l3.1))) (hzz.mono (l2.1.trans l3.1)).cells with⟨e1,e2⟩|⟨x,x',e1,e2,hx⟩
   ·simp only[e1,e2];exact zT
   ·simp only[e1,e2];exact SR.pure (.agg hx.1 hx.2)
 | array n el=>
   dsimp only
   refine(aU l2.2 el).bind' l2.2 ?_
   intro ρ3 l3 p p' e
   cases e
   rcases xM (ρ:=ρ3) (fun i=>some (i * p,p)) (hm (l1.1.trans (l2.1.trans l3.1))) (hzz.mono (l2.1.trans l3.1)).cells with⟨e1,e2⟩|⟨x,x',e1,e2,hx⟩
   ·simp only[e1,e2];exact zT
   ·simp only[e1,e2];exact SR.pure (.agg hx.1 hx.2)
 | _=>exact zT
def tz{α β:Type}:Ren→Option α→Option β→Prop:=fun _ a b=>a=none∧b=none
theorem oq{r r':Nat}(h:ρ r=some r'):SR P mE ρ (shape r) (shape r'):=⟨_,_,rfl,h,fun x=>⟨x,rfl,rfl⟩⟩
theorem jM{r r':Nat}(h:ρ r=some r'):SR P OR ρ (getObj r) (getObj r'):=⟨_,_,rfl,h,fun _ _ o o' ho=>⟨o',rfl,ho⟩⟩
theorem pF{r r':Nat}(h:ρ r=some r'){o o':Obj}(ho:OR ρ o o'):SR P mE ρ (setObj r o) (setObj r' o'):=⟨_,_,_,rfl,h,ho,(),rfl,rfl⟩
theorem oL(q:Question):SR P mE ρ (choose q) (choose q):=⟨_,rfl,fun n=>⟨n,rfl,rfl⟩⟩
theorem Ak(hi:dL ρ){r r':Nat}(h:ρ r=some r'):SR P tz ρ (viewAt r) (viewAt r'):=by
 unfold viewAt
 refine(oq h).bind' hi ?_
 intro ρ1 l1 x y e
 cases e
 cases x with
 | some x=>exact SR.pure ⟨rfl,rfl⟩
 | none=>
   refine(jM (l1.1 _ _ h)).bind' l1.2 ?_
   intro ρ2 l2 o o' ho
   cases ho <;> exact SR.pure ⟨rfl,rfl⟩
theorem Ls(hi:dL ρ){a a':Addr}(h:AR ρ a a'):SR P mE ρ (noView a) (noView a'):=by
 unfold noView
 refine(Ak hi h.1).bind' hi ?_
 rintro ρ1 l1 x y ⟨rfl,rfl⟩
 exact SR.pure rfl
def NL:Ren→Option (Addr × Bool)→Option (Addr × Bool)→Prop:=fun ρ x y=>(x=none∧y=none)∨∃a a' l,x=some (a,l)∧y=some (a',l)∧AR ρ a a'
theorem sU(hi:dL ρ){r r':Nat}(h:ρ r=some r'):SR P NL ρ (numberAt r) (numberAt r'):=by
 unfold numberAt
 refine(oq h).bind' hi ?_
 intro ρ1 l1 x y e
 cases e
 cases x with
 | some x=>exact SR.pure (.inl ⟨rfl,rfl⟩)
 | none=>
   refine(jM (l1.1 _ _ h)).bind' l1.2 ?_
   intro ρ2 l2 o o' ho
   cases ho with
   | cells e h f=>exact SR.pure (.inl ⟨rfl,rfl⟩)
   | map k h=>exact SR.pure (.inl ⟨rfl,rfl⟩)
   | number l h=>exact SR.pure (.inr ⟨_,_,_,rfl,rfl,h⟩)
   | loop h=>exact SR.pure (.inl ⟨rfl,rfl⟩)
   | defs h=>exact SR.pure (.inl ⟨rfl,rfl⟩)
def AbR:Ren→Addr × Bool→Addr × Bool→Prop:=fun ρ x y=>AR ρ x.1 y.1∧x.2=y.2
theorem aY(hi:dL ρ){a a':Addr}(h:AR ρ a a'):SR P AbR ρ (behindNumber a) (behindNumber a'):=by
 unfold behindNumber
 refine(sU hi h.1).bind' hi ?_
 rintro ρ1 l1 x y (⟨rfl,rfl⟩|⟨b,b',l,rfl,rfl,hb⟩)
 ·exact SR.pure ⟨h.mono l1.1,rfl⟩
 ·exact SR.pure ⟨hb,rfl⟩
theorem Eh{a a':Addr}(h:AR ρ a a')(l:Bool)(hi:dL ρ):SR P VR ρ (asNumber a l) (asNumber a' l):=by
 unfold asNumber
 have:SR P (fun ρ r r'=>ρ r=some r') ρ (newObj (.number a l)) (newObj (.number a' l)):=⟨_,_,rfl,.number l h,fun _ _ r r' hr=>⟨r',rfl,hr⟩⟩
 refine this.bind' hi ?_
 intro ρ1 l1 r r' hr
 exact SR.pure (.ptr ⟨hr,rfl,rfl⟩)
theorem qQ(hi:dL ρ){a a':Addr}(h:AR ρ a a'):SR P mE ρ (byteOf a) (byteOf a'):=by
 unfold byteOf
 rw[h.2.2,h.2.1]
 cases a.spot with
 | some s=>exact SR.pure rfl
 | none=>
   dsimp only
   refine iQ.bind' hi ?_
   rintro ρ1 l1 p p' ⟨rfl,rfl⟩
   refine(Ls l1.2 (h.mono l1.1)).bind' l1.2 ?_
   intro ρ2 l2 _ _ _
   refine(oq (l2.1 _ _ (l1.1 _ _ h.1))).bind' l2.2 ?_
   intro ρ3 l3 x y e
   cases e
   cases x with
   | none=>exact zT
   | some x=>
     obtain⟨e,n⟩:=x
     dsimp only
     by_cases hs:p'.cellsOf e=0
     ·simp only[if_pos hs];exact SR.pure rfl
     ·simp only[if_neg hs]
      cases byteOfCell p' p'.depth e (a.off % p'.cellsOf e) with
      | none=>exact zT
      | some b=>exact SR.pure rfl
theorem LH(hi:dL ρ){a a':Addr}(h:AR ρ a a')(cells bytes:Nat):SR P AR ρ (partAt a cells bytes) (partAt a' cells bytes):=by
 unfold partAt
 refine(qQ hi h).bind' hi ?_
 intro ρ1 l1 b b' e
 cases e
 have hp:AR ρ1 {block:=a.block,off:=a.off+cells } {block:=a'.block,off:=a'.off+cells }:=⟨l1.1 _ _ h.1,by simp[h.2.1],rfl⟩
 refine(qQ l1.2 hp).bind' l1.2 ?_
 intro ρ2 l2 c c' e
 cases e
 have hp2:=hp.mono l2.1
 dsimp only
 split
 ·exact SR.pure hp2
 ·exact SR.pure ⟨hp2.1,hp2.2.1,rfl⟩
theorem xL(hi:dL ρ){a a':Addr}(h:AR ρ a a')(f:Field):SR P AR ρ (fieldPlace a f) (fieldPlace a' f):=by
 unfold fieldPlace
 refine(aU hi f.type).bind' hi ?_
 intro ρ1 l1 n m e
 cases e
 split
 ·exact LH l1.2 (h.mono l1.1) _ _
 ·exact SR.pure ((h.mono l1.1).add _)
theorem GU(hi:dL ρ)(t:TypeId){v v':Value}(h:VR ρ v v')(i:Nat):SR P VR ρ (Instr.fieldAt t v i) (Instr.fieldAt t v' i):=by
 unfold Instr.fieldAt
 refine(aK t).bind' hi ?_
 intro ρ1 l1 x y e
 cases e
 cases x with
 | struct fs=>
   dsimp only
   cases fs[i]? with
   | none=>exact zT
   | some f=>
     dsimp only
     refine(iA (h.mono l1.1)).bind' l1.2 ?_
     intro ρ2 l2 a a' ha
     refine(xL l2.2 ha f).bind' l2.2 ?_
     intro ρ3 l3 b b' hb
     exact SR.pure (.ptr hb)
 | _=>exact zT
theorem kJ{v v':Value}(h:VR ρ v v'):SR P mE ρ (asIntOf v) (asIntOf v'):=by
 cases h <;> first|exact SR.pure rfl|exact zT
theorem Cq(hi:dL ρ){v v':Value}(h:VR ρ v v'):SR P mE ρ (asInt v) (asInt v'):=
 (kJ h).bind' hi fun _ _ _ _ e=>by cases e;exact SR.pure rfl
theorem J8{v v':Value}(h:VR ρ v v'):SR P mE ρ (asBool v) (asBool v'):=by
 cases h <;> first|exact SR.pure rfl|exact zT
theorem aQ{α β:Type}{Q:Ren→α→β→Prop}{e:RuntimeError}(he:∀a b c d,e≠.typeAssertion a b c d)(hp:e≠.panicNil):SR P Q ρ (runtimePanic e) (runtimePanic e):=by
 refine⟨_,rfl,?_⟩
 cases e <;> first|exact zT|exact absurd rfl (he _ _ _ _)|exact absurd rfl hp
theorem fq{α β:Type}{Q:Ren→α→β→Prop}(hi:dL ρ)(k:IntKind)(x y:Int)(c:BoundsCode):SR P Q ρ (boundsPanic k x y c) (boundsPanic k x y c):=by
 unfold boundsPanic
 dsimp only
 split
 ·refine SR.bind' (Q:=mE) hi ⟨_,rfl,fun n=>⟨_,rfl,rfl⟩⟩ ?_
  intro ρ1 l1 a b e
  cases e
  exact aQ zs zs
 ·exact aQ (e:=.bounds _ _ _ _) zs zs
def EC(t:TypeId)(k:IntKind)(n:Int)(x:Option Addr × Nat × TypeId):Sem Value:=do
 let d ← underlying t
 match x.1 with
 | some a=>
   if 0≤n∧n<x.2.1 then do
    let m ← sizeOf x.2.2
    pure (.pointer (some (a.add (n.toNat * m))))
   else if (decide (x.2.1≤1) && match d with| .array ..=>true|_=>false)=true then unsupported (.noEntry Ys)
   else boundsPanic k n x.2.1 .index
 | none=>boundsPanic k n 0 .index
def FZ(ρ:Ren)(x y:Option Addr):Prop:=(x=none∧y=none)∨∃a a',x=some a∧y=some a'∧AR ρ a a'
theorem FZ.mono{ρ':Ren}(l:Le ρ ρ'){x y:Option Addr}(h:FZ ρ x y):FZ ρ' x y:=by
 rcases h with h|⟨a,a',e1,e2,h⟩
 ·exact .inl h
 ·exact .inr ⟨a,a',e1,e2,h.mono l⟩
theorem nT(hi:dL ρ)(t:TypeId)(k:IntKind)(n:Int){b b':Option Addr}(h:FZ ρ b b')(len:Nat)(e:TypeId):SR P VR ρ (EC t k n (b,len,e)) (EC t k n (b',len,e)):=by
 unfold EC
 refine(aK t).bind' hi ?_
 intro ρ1 l1 d d' ed
 cases ed
 rcases h with⟨rfl,rfl⟩|⟨a,a',rfl,rfl,ha⟩
 ·exact fq l1.2 _ _ _ _
 ·dsimp only
  by_cases hc:0≤n∧n<len
  ·rw[if_pos hc,if_pos hc]
   refine(aU l1.2 e).bind' l1.2 ?_
   intro ρ4 l4 m m' e
   cases e
   exact SR.pure (.ptr ((ha.mono (l1.1.trans l4.1)).add _))
  ·rw[if_neg hc,if_neg hc]
   cases (decide (len≤1) && match d with| .array ..=>true|_=>false) with
   | true=>exact zT
   | false=>exact fq l1.2 _ _ _ _
theorem Ic(hi:dL ρ)(t:TypeId){x x' i i':Value}(hx:VR ρ x x')(h:VR ρ i i'):SR P VR ρ (Instr.indexAt t x i) (Instr.indexAt t x' i'):=by
 unfold Instr.indexAt
 refine(kJ h).bind' hi ?_
 intro ρ1 l1 p p' e
 cases e
 obtain⟨k,n⟩:=p
 dsimp only
 refine(aK t).bind' l1.2 ?_
 intro ρ2 l2 d d' e
 cases e
 have hx2:=hx.mono (l1.1.trans l2.1)
 cases d with
 | array len e=>
   refine(iA hx2).bind' l2.2 ?_
   intro ρ3 l3 a a' ha
   exact nT l3.2 t k n (.inr ⟨a,a',rfl,rfl,ha⟩) len e
 | slice e=>
   cases hx2 with
   | yL l c=>exact nT l2.2 t k n (.inl ⟨rfl,rfl⟩) l e
   | sl l c ha=>exact nT l2.2 t k n (.inr ⟨_,_,rfl,rfl,ha⟩) l e
   | _=>exact zT
 | _=>exact zT
theorem PD(hi:dL ρ)(t:TypeId){x x' i i':Value}(hx:VR ρ x x')(h:VR ρ i i'):SR P VR ρ (Instr.index t x i) (Instr.index t x' i'):=by
 unfold Instr.index
 refine(kJ h).bind' hi ?_
 intro ρ1 l1 p p' e
 cases e
 obtain⟨k,n⟩:=p
 dsimp only
 refine(aK t).bind' l1.2 ?_
 intro ρ2 l2 d d' e
 cases e
 have hx2:=hx.mono (l1.1.trans l2.1)
 cases d with
 | array len e=>
   cases hx2 with
   | agg es hs=>
     dsimp only
     by_cases hc:0≤n∧n<len
     ·rw[if_pos hc,if_pos hc]
      refine(aU l2.2 e).bind' l2.2 ?_
      intro ρ4 l4 m m' em
      cases em
      exact IG l4.2 e (dW.mono l4.1 ⟨es,hs⟩) _
     ·rw[if_neg hc,if_neg hc]
      exact fq l2.2 _ _ _ _
   | _=>exact zT
 | string=>
   cases hx2 with
   | string s=>
     dsimp only
     cases (if 0≤n then s[n.toNat]? else none) with
     | none=>exact fq l2.2 _ _ _ _
     | some b=>exact SR.pure (.int _ _)
   | _=>exact zT
 | _=>exact zT
theorem fQ(hi:dL ρ){v v':Value}(h:VR ρ v v')(y:Nat)(c:BoundsCode):SR P mE ρ (Instr.sliceBound v y c) (Instr.sliceBound v' y c):=by
 unfold Instr.sliceBound
 refine(kJ h).bind' hi ?_
 intro ρ1 l1 p p' e
 cases e
 obtain⟨k,n⟩:=p
 dsimp only
 split
 ·exact SR.pure rfl
 ·exact fq l1.2 _ _ _ _
def qN(ρ:Ren)(x y:Option Value):Prop:=(x=none∧y=none)∨∃a a',x=some a∧y=some a'∧VR ρ a a'
theorem qN.mono{ρ':Ren}(l:Le ρ ρ'){x y:Option Value}(h:qN ρ x y):qN ρ' x y:=by
 rcases h with h|⟨a,a',e1,e2,h⟩
 ·exact .inl h
 ·exact .inr ⟨a,a',e1,e2,h.mono l⟩
theorem cJ(hi:dL ρ){x y:Option Value}(h:qN ρ x y)(len:Nat)(c:BoundsCode)(d:Nat):
 SR P mE ρ (match x with|some v=>Instr.sliceBound v len c|none=>pure d) (match y with|some v=>Instr.sliceBound v len c|none=>pure d):=by
 rcases h with⟨rfl,rfl⟩|⟨a,a',rfl,rfl,ha⟩
 ·exact SR.pure rfl
 ·exact fQ hi ha _ _
theorem SR.aO{α γ δ:Type}{R:Ren→γ→δ→Prop}{s s':Sem α}{f:α→Sem γ}{f':α→Sem δ}(hi:dL ρ)(h:SR P mE ρ s s')(hf:∀ρ',Ext ρ ρ'→∀a,SR P R ρ' (f a) (f' a)):SR P R ρ (s >>= f) (s' >>= f'):=
 h.bind' hi fun ρ' l a b e=>by cases e;exact hf ρ' l a
def AH(x:Option Value)(h m:Nat)(c:BoundsCode):Sem (Nat × Nat × Nat):=match x with|some v=>(do let l ← Instr.sliceBound v h c;pure (l,h,m))|none=>(do let l ← pure 0;pure (l,h,m))
theorem EO(hi:dL ρ){x x':Option Value}(hx:qN ρ x x')(h m:Nat)(c:BoundsCode):SR P mE ρ (AH x h m c) (AH x' h m c):=by
 rcases hx with⟨rfl,rfl⟩|⟨v,v',rfl,rfl,hv⟩
 ·exact SR.pure rfl
 ·exact(fQ hi hv _ _).aO hi fun _ _ _=>SR.pure rfl
theorem fu(hi:dL ρ)(s:Bool)(len cap:Nat){x x' y y' z z':Option Value}(hx:qN ρ x x')(hy:qN ρ y y')(hz:qN ρ z z'):SR P mE ρ (Instr.sliceBounds s len cap x y z) (Instr.sliceBounds s len cap x' y' z'):=by
 unfold Instr.sliceBounds
 dsimp only
 rcases hz with⟨rfl,rfl⟩|⟨vz,vz',rfl,rfl,hvz⟩
 ·dsimp only
  refine SR.aO hi (SR.pure rfl) fun ρ1 l1 m=>?_
  rcases hy with⟨rfl,rfl⟩|⟨vy,vy',rfl,rfl,TZ⟩
  ·dsimp only
   exact SR.aO l1.2 (SR.pure rfl) fun ρ2 l2 h=>EO l2.2 (hx.mono (l1.1.trans l2.1)) _ _ _
  ·dsimp only
   exact SR.aO l1.2 (fQ l1.2 (TZ.mono l1.1) _ _) fun ρ2 l2 h=>EO l2.2 (hx.mono (l1.1.trans l2.1)) _ _ _
 ·dsimp only
  refine SR.aO hi (fQ hi hvz _ _) fun ρ1 l1 m=>?_
  rcases hy with⟨rfl,rfl⟩|⟨vy,vy',rfl,rfl,TZ⟩
  ·exact zT
  ·dsimp only
   exact SR.aO l1.2 (fQ l1.2 (TZ.mono l1.1) _ _) fun ρ2 l2 h=>EO l2.2 (hx.mono (l1.1.trans l2.1)) _ _ _
theorem xw{v v':Value}(h:VR ρ v v'):SR P AR ρ (asAddr v) (asAddr v'):=by
 cases h with
 | ptr h=>exact SR.pure h
 | yD=>exact aQ (e:=.nilDeref) zs zs
 | _=>exact zT
theorem Qt(hi:dL ρ)(t:TypeId){v v':Value}(hv:VR ρ v v'){x x' y y' z z':Option Value}(hx:qN ρ x x')(hy:qN ρ y y')(hz:qN ρ z z'):SR P VR ρ (Instr.slice t v x y z) (Instr.slice t v' x' y' z'):=by
 unfold Instr.slice
 refine(aK t).aO hi fun ρ1 l1 d=>?_
 have hv1:=hv.mono l1.1
 have hx1:=hx.mono l1.1
 have hy1:=hy.mono l1.1
 have hz1:=hz.mono l1.1
 cases d with
 | string=>
   cases hv1 with
   | string s=>
     dsimp only
     rcases hz1 with⟨rfl,rfl⟩|⟨vz,vz',rfl,rfl,hvz⟩
     ·exact(fu l1.2 false s.size s.size hx1 hy1 (.inl ⟨rfl,rfl⟩)).aO l1.2 fun _ _ p=>SR.pure (.string _)
     ·exact zT
   | _=>exact zT
 | slice e=>
   cases hv1 with
   | yL len cap=>
     refine(fu l1.2 true len cap hx1 hy1 hz1).aO l1.2 fun ρ2 l2 p=>?_
     refine(aU l2.2 e).aO l2.2 fun ρ3 l3 m=>?_
     refine SR.pure ?_
     simp only[Option.map_none,ite_self]
     exact .yL _ _
   | sl len cap ha=>
     refine(fu l1.2 true len cap hx1 hy1 hz1).aO l1.2 fun ρ2 l2 p=>?_
     refine(aU l2.2 e).aO l2.2 fun ρ3 l3 m=>?_
     refine SR.pure ?_
     have dj:=ha.mono (l2.1.trans l3.1)
     split
     ·exact .sl _ _ dj
     ·exact .sl _ _ (dj.add _)
   | _=>exact zT
 | pointer arr=>
   refine(xw hv1).bind' l1.2 fun ρ2 l2 a a' ha=>?_
   refine(aK arr).aO l2.2 fun ρ3 l3 d=>?_
   cases d with
   | array n e=>
     refine(fu l3.2 false n n (hx1.mono (l2.1.trans l3.1)) (hy1.mono (l2.1.trans l3.1)) (hz1.mono (l2.1.trans l3.1))).aO l3.2 fun ρ4 l4 p=>?_
     refine(aU l4.2 e).aO l4.2 fun ρ5 l5 m=>?_
     refine SR.pure ?_
     have dj:=ha.mono (l3.1.trans (l4.1.trans l5.1))
     split
     ·exact .sl _ _ dj
     ·exact .sl _ _ (dj.add _)
   | _=>exact zT
 | _=>exact zT
theorem IX(hi:dL ρ)(t:TypeId){v v':Value}(hv:VR ρ v v'){x x' y y' z z':Option Value}(hx:qN ρ x x')(hy:qN ρ y y')(hz:qN ρ z z'):SR P VR ρ (Instr.sliceAt t v x y z) (Instr.sliceAt t v' x' y' z'):=by
 unfold Instr.sliceAt
 refine(aK t).aO hi fun ρ1 l1 d=>?_
 have hv1:=hv.mono l1.1
 have hx1:=hx.mono l1.1
 have hy1:=hy.mono l1.1
 have hz1:=hz.mono l1.1
 cases d with
 | array n e=>
   refine(iA hv1).bind' l1.2 fun ρ2 l2 a a' ha=>?_
   refine(fu l2.2 false n n (hx1.mono l2.1) (hy1.mono l2.1) (hz1.mono l2.1)).aO l2.2 fun ρ4 l4 p=>?_
   refine(aU l4.2 e).aO l4.2 fun ρ5 l5 m=>?_
   refine SR.pure ?_
   have dj:=ha.mono (l4.1.trans l5.1)
   split
   ·exact .sl _ _ dj
   ·exact .sl _ _ (dj.add _)
 | _=>exact Qt l1.2 t hv1 hx1 hy1 hz1
theorem KV(op:BinOp)(k:IntKind)(x y:Int):SR P VR ρ (Op.intDiv op k x y) (Op.intDiv op k x y):=by
 unfold Op.intDiv
 split
 ·exact aQ (e:=.error _) zs zs
 ·split
  ·exact SR.pure (.int _ _)
  ·exact SR.pure (.int _ _)
  ·exact zT
theorem Qs(op:BinOp)(k yk:IntKind)(x y:Int):SR P VR ρ (Op.shift op k x yk y) (Op.shift op k x yk y):=by
 unfold Op.shift
 split
 ·exact aQ (e:=.error _) zs zs
 ·dsimp only
  split
  ·exact SR.pure (.int _ _)
  ·exact SR.pure (.int _ _)
  ·exact zT
theorem KU(op:BinOp)(x y:Int):SR P VR ρ (Op.intCmp op x y) (Op.intCmp op x y):=by
 unfold Op.intCmp
 split <;> first|exact SR.pure (.bool _)|exact zT
theorem EF(op:BinOp)(k:IntKind)(x y:Int):SR P VR ρ (Op.intArith op k x y) (Op.intArith op k x y):=by
 unfold Op.intArith
 split <;> first|exact SR.pure (.int _ _)|exact zT
theorem Ie(op:BinOp)(k:IntKind)(x y:Int):SR P VR ρ (Op.intBits op k x y) (Op.intBits op k x y):=by
 unfold Op.intBits
 dsimp only
 split <;> first|exact SR.pure (.int _ _)|exact zT
theorem vZ(hi:dL ρ)(op:BinOp)(k:FloatKind)(x y:Nat):SR P VR ρ (Op.floatArith op k x y) (Op.floatArith op k x y):=by
 unfold Op.floatArith
 have tail:∀ {ρ':Ren} (r:Option Nat),SR P VR ρ' (match r with|some r=>pure (.float k r)|none=>do pure (.float k (← choose (.nanBits k x y))):Sem Value) (match r with|some r=>pure (.float k r)|none=>do pure (.float k (← choose (.nanBits k x y))):Sem Value):=by
  intro ρ' r
  cases r with
  | some r=>exact SR.pure (.float _ _)
  | none=>exact⟨_,rfl,fun n=>⟨_,rfl,.float _ _⟩⟩
 cases op <;> first|exact zT|exact tail _
theorem Bo(op:BinOp)(k:FloatKind)(x y:Nat):SR P VR ρ (Op.floatCmp op k x y) (Op.floatCmp op k x y):=by
 unfold Op.floatCmp
 cases op <;> first|exact zT|exact SR.pure (.bool _)
theorem lD(op:BinOp)(x y:ByteArray):SR P VR ρ (Op.stringOp op x y) (Op.stringOp op x y):=by
 unfold Op.stringOp
 cases op <;> dsimp only <;> first|exact zT|exact SR.pure (.bool _)|(split <;> first|exact zT|exact SR.pure (.string _))
def Cl{α:Type}(P:Program)(s:Sem α):Prop:=∀ {ρ:Ren},dL ρ→SR P mE ρ s s
theorem Cl.pure{α:Type}(a:α):Cl P (Pure.pure a:Sem α):=fun _=>SR.pure rfl
theorem Cl.bind{α β:Type}{s:Sem α}{f:α→Sem β}(h:Cl P s)(hf:∀a,Cl P (f a)):Cl P (s >>= f):=fun hi=>(h hi).aO hi fun _ l a=>hf a l.2
theorem Cl.stuck{α:Type}(w:String):Cl P (Go.stuck w:Sem α):=fun _=>trivial
theorem Cl.choose(q:Question):Cl P (Go.choose q):=fun _=>oL q
theorem Cl.ite{α:Type}{c:Prop}[Decidable c]{s t:Sem α}(h:Cl P s)(k:Cl P t):Cl P (if c then s else t):=by split <;> assumption
theorem Bj(op:BinOp)(k:FloatKind)(x y:Nat):Cl P (Op.floatArith op k x y):=by
 unfold Op.floatArith
 have tail:∀ (r:Option Nat),Cl P (match r with|some r=>Pure.pure (.float k r)|none=>do Pure.pure (.float k (← Go.choose (.nanBits k x y))):Sem Value):=by
  intro r
  cases r with
  | some r=>exact Cl.pure _
  | none=>exact Cl.bind (Cl.choose _) fun _=>Cl.pure _
 cases op <;> first|exact(fun{_} _=>trivial)|exact(fun{_} hi=>tail _ hi)
theorem Gs(op:BinOp)(k:FloatKind)(x y:Nat):Cl P (Op.floatCmp op k x y):=by
 unfold Op.floatCmp
 cases op <;> first|exact(fun{_} _=>trivial)|exact Cl.pure _
theorem i4(s:FloatKind)(x:Nat)(d:FloatKind):Cl P (Conv.floatToFloat s x d):=by
 unfold Conv.floatToFloat
 split
 ·exact Cl.pure _
 ·split
  ·exact Cl.bind (Cl.choose _) fun _=>Cl.pure _
  ·exact Cl.pure _
  ·dsimp only
   split
   ·exact Cl.bind (Cl.choose _) fun _=>Cl.pure _
   ·exact Cl.pure _
theorem sD(op:BinOp)(k:FloatKind)(x y:Nat):Cl P (Op.Complex.arith op k x y):=by
 unfold Op.Complex.arith
 refine Cl.bind (Bj _ _ _ _) fun v=>?_
 cases v <;> first|exact Cl.pure _|exact(fun{_} _=>trivial)
theorem Km(op:BinOp)(k:FloatKind)(x y:Nat):Cl P (Op.Complex.cmp op k x y):=by
 unfold Op.Complex.cmp
 refine Cl.bind (Gs _ _ _ _) fun v=>?_
 cases v <;> first|exact Cl.pure _|exact(fun{_} _=>trivial)
theorem XO(s:FloatKind)(x:Nat)(d:FloatKind):Cl P (Op.Complex.conv s x d):=by
 unfold Op.Complex.conv
 split
 ·exact Cl.pure _
 ·refine Cl.bind (i4 _ _ _) fun v=>?_
  cases v <;> first|exact Cl.pure _|exact(fun{_} _=>trivial)
theorem Kn(a b c d:Nat):Cl P (Op.Complex.product a b c d):=by
 unfold Op.Complex.product
 repeat first|exact Cl.pure _|refine Cl.bind (sD _ _ _ _) fun _=>?_
theorem Eo(s a b c d:Nat):Cl P (Op.Complex.corrected s a b c d):=by
 unfold Op.Complex.corrected
 repeat first|exact Cl.pure _|refine Cl.bind (sD _ _ _ _) fun _=>?_
theorem Gt(a b c d:Nat):Cl P (Op.Complex.quotient a b c d):=by
 unfold Op.Complex.quotient
 dsimp only
 refine Cl.bind (Km _ _ _ _) fun x=>?_
 repeat' first
  | (with_reducible exact Cl.pure _)
  | (with_reducible exact Eo _ _ _ _ _)
  | (with_reducible refine Cl.bind (sD _ _ _ _) fun _=>?_)
  | (with_reducible refine Cl.bind (Km _ _ _ _) fun _=>?_)
  | (with_reducible refine Cl.bind (Cl.pure _) fun _=>?_)
  | (with_reducible refine Cl.ite ?_ ?_)
  | split
  | dsimp only
def wQ(P:Program)(t:TypeId):Bool:=match P.info? t with
 | some i=>(match i.desc with| .named "sync.copyChecker" _=>false|_=>true)
 | none=>true
theorem iy{α β:Type}{R:Ren→α→β→Prop}{t:TypeId}{f:TypeDesc→Sem α}{f':TypeDesc→Sem β}(hR:∀d,P.underlying t=some d→SR P R ρ (f d) (f' d)):SR P R ρ (underlying t >>= f) (underlying t >>= f'):=by
 refine⟨_,rfl,?_⟩
 have e:∀o,P.underlying t=o→SR P R ρ (Sem.bind (match o with|some d=>pure d|none=>stuck "no such type") f) (Sem.bind (match o with|some d=>pure d|none=>stuck "no such type") f'):=by
  intro o ho
  cases o with
  | none=>exact zT
  | some d=>exact hR d ho
 exact e _ rfl
theorem Zx{α β:Type}{R:Ren→α→β→Prop}{t:TypeId}{f:TypeInfo→Sem α}{f':TypeInfo→Sem β}(hR:∀d,P.info? t=some d→SR P R ρ (f d) (f' d)):SR P R ρ (typeInfo t >>= f) (typeInfo t >>= f'):=by
 refine⟨_,rfl,?_⟩
 have e:∀o,P.info? t=o→SR P R ρ (Sem.bind (match o with|some d=>pure d|none=>stuck "no such type") f) (Sem.bind (match o with|some d=>pure d|none=>stuck "no such type") f'):=by
  intro o ho
  cases o with
  | none=>exact zT
  | some d=>exact hR d ho
 exact e _ rfl
end
end Go.bZ
