/- Str Par Par2 -/
import Derived.Test.YtmjjocnfidnelaaGreatA0
import Derived.Calls
set_option maxRecDepth 100000
set_option maxHeartbeats 16000000
set_option linter.unusedVariables false
set_option linter.unusedSectionVars false
namespace Go
def sQ0(l:List Nat):String:=String.ofList (l.map Char.ofNat)
def sQ1:String:=sQ0 [108,111,97,100,58,32,110,111,32,115,117,99,104,32,99,101,108,108]
def sQ2:String:=sQ0 [115,116,111,114,101,58,32,110,111,32,115,117,99,104,32,99,101,108,108]
def sQ3:String:=sQ0 [117,110,119,105,110,100,58,32,116,104,101,32,102,114,97,109,101,32,105,115,32,114,117,110,110,105,110,103]
def sQ4:String:=sQ0 [101,120,105,116,44,32,103,111,116,111,58,32,110,111,32,115,117,99,104,32,98,108,111,99,107,32,111,114,32,108,97,98,101,108]
def sQ5:String:=sQ0 [114,97,110,103,101,32,111,118,101,114,32,97,32,102,117,110,99,116,105,111,110,58,32,110,111,32,115,117,99,104,32,108,111,111,112]
def sQ6:String:=sQ0 [98,101,103,105,110,82,111,117,110,100,58,32,110,111,32,114,111,117,110,100]
def sQ7:String:=sQ0 [114,101,116,117,114,110,58,32,116,104,101,32,114,101,115,117,108,116,32,118,97,114,105,97,98,108,101,115,32,99,97,110,110,111,116,32,98,101,32,114,101,97,100]
def sQ8:String:=sQ0 [78,101,120,116,58,32,110,111,32,115,117,99,104,32,99,97,110,100,105,100,97,116,101]
def sQ9:String:=sQ0 [98,117,105,108,100,83,108,105,99,101,58,32,97,32,112,97,114,116,32,111,102,32,116,104,101,32,119,114,111,110,103,32,115,105,122,101]
def sQ10:String:=sQ0 [103,114,111,119,115,108,105,99,101,58,32,108,101,110,32,111,117,116,32,111,102,32,114,97,110,103,101]
def sQ11:String:=sQ0 [97,112,112,101,110,100,58,32,97,32,115,108,105,99,101,32,111,114,32,97,32,115,116,114,105,110,103,32,119,104,111,115,101,32,98,121,116,101,115,32,110,111,32,109,101,109,111,114,121,32,98,101,97,114,115]
def sQ12:String:=sQ0 [97,110,111,116,104,101,114,32,101,110,100,32,111,102,32,97,110,32,105,116,101,114,97,116,111,114,39,115,32,99,97,108,108]
def sQ13:String:=sQ0 [99,111,110,100,58,32,98,111,111,108,32,101,120,112,101,99,116,101,100]
def sQ14:String:=sQ0 [101,97,114,108,121,58,32,116,104,101,32,118,97,114,105,97,98,108,101,32,100,111,101,115,32,110,111,116,32,119,97,105,116]
def sQ15:String:=sQ0 [97,32,118,97,108,117,101,32,111,102,32,109,111,114,101,32,116,104,97,110,32,50,94,50,50,32,99,101,108,108,115]
def sQ16:String:=sQ0 [111,112,47,105,110,100,101,120,65,100,100,114,46,97,110,32,105,110,100,101,120,32,111,117,116,32,111,102,32,114,97,110,103,101,32,97,116,32,97,110,32,97,114,114,97,121,32,111,102,32,108,101,110,103,116,104,32,48,32,111,114,32,49,32,40,108,101,100,103,101,114,32,54,49,54,41]
def sQ17:String:=sQ0 [98,105,110,111,112,47,101,113,108,58,32,116,119,111,32,110,105,108,32,118,97,108,117,101,115,32,111,102,32,97,110,32,105,110,116,101,114,102,97,99,101,32,116,121,112,101,32,119,105,116,104,32,109,101,116,104,111,100,115,44,32,110,101,105,116,104,101,114,32,111,102,32,116,104,101,109,32,116,104,101,32,108,105,116,101,114,97,108,32,110,105,108]
def sQ18:String:=sQ0 [110,101,119,115,46,103,111,58,52,56]
def sQ19:String:=sQ0 [108,105,115,116,115,46,103,111,58,55,50]
end Go
namespace Go.cZ
section
abbrev Ren:=Nat→Option Nat
def Le(ρ ρ':Ren):Prop:=∀b b',ρ b=some b'→ρ' b=some b'
theorem Le.refl(ρ:Ren):Le ρ ρ:=fun _ _ h=>h
theorem Le.trans{a b c:Ren}(h:Le a b)(k:Le b c):Le a c:=fun _ _ e=>k _ _ (h _ _ e)
def dP(ρ:Ren):Prop:=∀a b c,ρ a=some c→ρ b=some c→a=b
def Ext(ρ ρ':Ren):Prop:=Le ρ ρ'∧dP ρ'
theorem Ext.refl{ρ:Ren}(h:dP ρ):Ext ρ ρ:=⟨.refl ρ,h⟩
theorem Ext.trans{a b c:Ren}(h:Ext a b)(k:Ext b c):Ext a c:=⟨h.1.trans k.1,k.2⟩
theorem Ext.of{a b c:Ren}(h:Le a b)(k:Ext b c):Ext a c:=⟨h.trans k.1,k.2⟩
def AR(ρ:Ren)(a a':Addr):Prop:=ρ a.block=some a'.block∧a'.off=a.off∧a'.spot=a.spot
theorem AR.mono{ρ ρ':Ren}(l:Le ρ ρ'){a a':Addr}(h:AR ρ a a'):AR ρ' a a':=⟨l _ _ h.1,h.2⟩
inductive VR (ρ:Ren):Value→Value→Prop
 | bool (b:Bool):VR ρ (.bool b) (.bool b)
 | int (k:IntKind) (n:Int):VR ρ (.int k n) (.int k n)
 | float (k:FloatKind) (n:Nat):VR ρ (.float k n) (.float k n)
 | complex (k:FloatKind) (m n:Nat):VR ρ (.complex k m n) (.complex k m n)
 | string (s:ByteArray):VR ρ (.string s) (.string s)
 | yu:VR ρ (.pointer none) (.pointer none)
 | ptr {a a':Addr}:AR ρ a a'→VR ρ (.pointer (some a)) (.pointer (some a'))
 | yF (l c:Nat):VR ρ (.slice none l c) (.slice none l c)
 | sl {a a':Addr} (l c:Nat):AR ρ a a'→VR ρ (.slice (some a) l c) (.slice (some a') l c)
 | XL:VR ρ (.map none) (.map none)
 | map {r r':Nat}:ρ r=some r'→VR ρ (.map (some r)) (.map (some r'))
 | WQ:VR ρ (.chan none) (.chan none)
 | chan {r r':Nat}:ρ r=some r'→VR ρ (.chan (some r)) (.chan (some r'))
 | func (g:FuncId) {x x' y y':Array Value}:x.size=x'.size→(∀ (i:Nat) (h:i<x.size) (h':i<x'.size),VR ρ x[i] x'[i])→y.size=y'.size→(∀ (i:Nat) (h:i<y.size) (h':i<y'.size),VR ρ y[i] y'[i])→
  VR ρ (.func (.func g) x y) (.func (.func g) x' y')
 | yield {l l':Nat}:ρ l=some l'→VR ρ (.func (.yield l) #[] #[]) (.func (.yield l') #[] #[])
 | nilFunc:VR ρ .nilFunc .nilFunc
 | iface (t:TypeId) {v v':Value}:VR ρ v v'→VR ρ (.iface t v) (.iface t v')
 | nilIface:VR ρ .nilIface .nilIface
 | agg {x x':Array Value}:x.size=x'.size→(∀ (i:Nat) (h:i<x.size) (h':i<x'.size),VR ρ x[i] x'[i])→VR ρ (.agg x) (.agg x')
 | tuple {x x':Array Value}:x.size=x'.size→(∀ (i:Nat) (h:i<x.size) (h':i<x'.size),VR ρ x[i] x'[i])→VR ρ (.tuple x) (.tuple x')
def dZ(ρ:Ren)(x x':Array Value):Prop:=x.size=x'.size∧∀ (i:Nat) (h:i<x.size) (h':i<x'.size),VR ρ x[i] x'[i]
theorem VR.mono{ρ ρ':Ren}(l:Le ρ ρ'){v v':Value}(h:VR ρ v v'):VR ρ' v v':=by
 induction h with
 | bool b=>exact .bool b
 | int k n=>exact .int k n
 | float k n=>exact .float k n
 | complex k m n=>exact .complex k m n
 | string s=>exact .string s
 | yu=>exact .yu
 | ptr h=>exact .ptr (h.mono l)
 | yF a c=>exact .yF a c
 | sl a c h=>exact .sl a c (h.mono l)
 | XL=>exact .XL
 | map h=>exact .map (l _ _ h)
 | WQ=>exact .WQ
 | chan h=>exact .chan (l _ _ h)
 | func g e1 _ e2 _ ih1 ih2=>exact .func g e1 ih1 e2 ih2
 | yield h=>exact .yield (l _ _ h)
 | nilFunc=>exact .nilFunc
 | iface t _ ih=>exact .iface t ih
 | nilIface=>exact .nilIface
 | agg e _ ih=>exact .agg e ih
 | tuple e _ ih=>exact .tuple e ih
theorem dZ.mono{ρ ρ':Ren}(l:Le ρ ρ'){x x':Array Value}(h:dZ ρ x x'):dZ ρ' x x':=⟨h.1,fun i a b=>(h.2 i a b).mono l⟩
theorem dZ.get?{ρ:Ren}{x x':Array Value}(h:dZ ρ x x')(i:Nat):(x[i]? =none∧x'[i]? =none)∨∃v v',x[i]? =some v∧x'[i]? =some v'∧VR ρ v v':=by
 rcases Nat.lt_or_ge i x.size with hi|hi
 ·have hi':i<x'.size:=h.1 ▸ hi
  exact .inr ⟨x[i],x'[i],by simp[hi],by simp[hi'],h.2 i hi hi'⟩
 ·have hi':x'.size≤i:=h.1 ▸ hi
  exact .inl ⟨by simp[hi],by simp[hi']⟩
theorem VR.undef(ρ:Ren):VR ρ undef undef:=.tuple rfl (fun i h=>by simp at h)
theorem dZ.getD{ρ:Ren}{x x':Array Value}(h:dZ ρ x x')(i:Nat):VR ρ (x.getD i undef) (x'.getD i undef):=by
 rcases h.get? i with⟨a,b⟩|⟨v,v',a,b,c⟩
 ·simp only[Array.getD_eq_getD_getElem?,a,b,Option.getD_none];exact .undef ρ
 ·simp only[Array.getD_eq_getD_getElem?,a,b,Option.getD_some];exact c
theorem dZ.nil(ρ:Ren):dZ ρ #[] #[]:=⟨rfl,fun i h=>by simp at h⟩
theorem dZ.push{ρ:Ren}{x x':Array Value}{v v':Value}(h:dZ ρ x x')(hv:VR ρ v v'):dZ ρ (x.push v) (x'.push v'):=by
 refine⟨by simp[h.1],fun i a b=>?_⟩
 by_cases hi:i<x.size
 ·have hi':i<x'.size:=h.1 ▸ hi
  rw[Array.getElem_push_lt hi,Array.getElem_push_lt hi'];exact h.2 i hi hi'
 ·have e:i=x.size:=by simp at a;omega
  subst e
  have:x.size=x'.size:=h.1
  simp only[Array.getElem_push_eq]
  have e2:(x'.push v')[x.size]=v':=by simp[this]
  rw[e2];exact hv
theorem dZ.set{ρ:Ren}{x x':Array Value}{v v':Value}(h:dZ ρ x x')(i:Nat)(hv:VR ρ v v'):dZ ρ (x.setIfInBounds i v) (x'.setIfInBounds i v'):=by
 refine⟨by simp[h.1],fun j a b=>?_⟩
 have hj:j<x.size:=by simpa using a
 have hj':j<x'.size:=by simpa using b
 by_cases e:i=j
 ·subst e;simp;exact hv
 ·rw[Array.getElem_setIfInBounds_ne hj e,Array.getElem_setIfInBounds_ne hj' e];exact h.2 j hj hj'
theorem dZ.append{ρ:Ren}{x x' y y':Array Value}(h:dZ ρ x x')(k:dZ ρ y y'):dZ ρ (x ++ y) (x' ++ y'):=by
 refine⟨by simp[h.1,k.1],fun i a b=>?_⟩
 have e:=h.1
 by_cases hi:i<x.size
 ·rw[Array.getElem_append_left hi,Array.getElem_append_left zo];exact h.2 i hi zo
 ·rw[Array.getElem_append_right zo,Array.getElem_append_right zo]
  have:=k.2 (i - x.size) (by simp at a;omega) (by simp at b;omega)
  simpa only[e] using this
theorem dZ.extract{ρ:Ren}{x x':Array Value}(h:dZ ρ x x')(a b:Nat):dZ ρ (x.extract a b) (x'.extract a b):=by
 refine⟨by simp[h.1],fun i p q=>?_⟩
 rw[Array.getElem_extract,Array.getElem_extract]
 exact h.2 _ _ _
theorem VR.cells{ρ:Ren}{v v':Value}(h:VR ρ v v'):dZ ρ v.cells v'.cells:=by
 have one:∀ {v v':Value},VR ρ v v'→dZ ρ #[v] #[v']:=fun hv=>⟨rfl,fun i a b=>by
  have:i=0:=by simp at a;omega
  subst this;exact hv⟩
 cases h with
 | agg e h=>exact⟨e,h⟩
 | _=>first|exact one (by constructor <;> assumption)|exact one (by constructor)
structure Dp(ρ:Ren)(e e':MapEntry):Prop where
 key:VR ρ e.key e'.key
 val:VR ρ e.val e'.val
 born:e'.born=e.born
def rH(ρ:Ren)(x x':Array MapEntry):Prop:=x.size=x'.size∧∀ (i:Nat) (h:i<x.size) (h':i<x'.size),Dp ρ x[i] x'[i]
theorem Dp.mono{ρ ρ':Ren}(l:Le ρ ρ'){e e':MapEntry}(h:Dp ρ e e'):Dp ρ' e e':=⟨h.key.mono l,h.val.mono l,h.born⟩
theorem rH.mono{ρ ρ':Ren}(l:Le ρ ρ'){x x':Array MapEntry}(h:rH ρ x x'):rH ρ' x x':=⟨h.1,fun i a b=>(h.2 i a b).mono l⟩
structure aZ where
 jf:FuncId→Code→Prop
variable[Inhabited aZ]
def jf(f:FuncId)(c:Code):Prop:=(default:aZ).jf f c
structure Rt(r:Loop):Prop where
 assign:jf r.fn r.assign
 body:jf r.fn r.body
 pending:∀j,r.pending=some j→jf r.fn j
structure uL(ρ:Ren)(r r':Loop):Prop where
 eq:r'={r with tmps:=r'.tmps,defers:=r'.defers }
 tmps:dZ ρ r.tmps r'.tmps
 defers:ρ r.defers=some r'.defers
 ok:Rt r
theorem uL.mono{ρ ρ':Ren}(l:Le ρ ρ'){r r':Loop}(h:uL ρ r r'):uL ρ' r r':=⟨h.eq,h.tmps.mono l,l _ _ h.defers,h.ok⟩
inductive OR (ρ:Ren):Obj→Obj→Prop
 | cells {c c':Array Value} (e:TypeId) {f f':Nat × Nat}:dZ ρ c c'→(∀o,f'.1≤o→o<f'.2→f.1≤o∧o<f.2)→OR ρ (.cells c e f) (.cells c' e f')
 | map {x x':Array MapEntry} (k:Nat):rH ρ x x'→OR ρ (.map x k) (.map x' k)
 | number {a a':Addr} (l:Bool):AR ρ a a'→OR ρ (.number a l) (.number a' l)
 | loop {r r':Loop}:uL ρ r r'→OR ρ (.loop r) (.loop r')
 | defs {d:Option (List Deferred)}:(d=none∨d=some [])→OR ρ (.deferred d) (.deferred d)
theorem OR.mono{ρ ρ':Ren}(l:Le ρ ρ'){o o':Obj}(h:OR ρ o o'):OR ρ' o o':=by
 cases h with
 | cells e h f=>exact .cells e (h.mono l) f
 | map k h=>exact .map k (h.mono l)
 | number b h=>exact .number b (h.mono l)
 | loop h=>exact .loop (h.mono l)
 | defs h=>exact .defs h
structure WR(ρ:Ren)(w w':World):Prop where
 obj:∀b b',ρ b=some b'→∃o o',w.heap[b]? =some o∧w'.heap[b']? =some o'∧OR ρ o o'
 inj:dP ρ
def kF(w w':World):Prop:=∀k q,w.tape (w.drawn+k) q=w'.tape (w'.drawn+k) q
def tH:Halt→Prop
 | .goexit| .blocked| .waiting| .unsupported (.initOrder _)=>False
 | _=>True
def Dead{α:Type}:Sem α→Prop
 | .halt h=>tH h
 | .shape _ k=>∀x,Dead (k x)
 | .frozen _ k=>∀x,Dead (k x)
 | .choose _ k=>∀x,Dead (k x)
 | .mark _ k=>Dead k
 | _=>False
theorem Dead.bind{α β:Type}{s:Sem α}(f:α→Sem β)(h:Dead s):Dead (s.bind f):=by
 induction s with
 | shape r k ih=>exact fun x=>ih x (h x)
 | frozen r k ih=>exact fun x=>ih x (h x)
 | choose r k ih=>exact fun x=>ih x (h x)
 | mark m k ih=>exact ih h
 | halt e=>exact h
 | _=>exact h.elim
def SR(P:Program){α β:Type}(Q:Ren→α→β→Prop):Ren→Sem α→Sem β→Prop
 | ρ,.pure a,s'=>∃b,s'=.pure b∧Q ρ a b
 | ρ,.load m a k,s'=>∃a' k',s'=.load m a' k'∧m=.plain∧AR ρ a a'∧∀ρ',Ext ρ ρ'→∀v v',VR ρ' v v'→SR P Q ρ' (k v) (k' v')
 | ρ,.store m a v k,s'=>∃a' v' k',s'=.store m a' v' k'∧m=.plain∧AR ρ a a'∧VR ρ v v'∧SR P Q ρ k k'
 | ρ,.new o k,s'=>∃o' k',s'=.new o' k'∧OR ρ o o'∧∀ρ',Ext ρ ρ'→∀r r',ρ' r=some r'→SR P Q ρ' (k r) (k' r')
 | ρ,.shape r k,s'=>∃r' k',s'=.shape r' k'∧ρ r=some r'∧∀x,SR P Q ρ (k x) (k' x)
 | ρ,.getObj r k,s'=>∃r' k',s'=.getObj r' k'∧ρ r=some r'∧∀ρ',Ext ρ ρ'→∀o o',OR ρ' o o'→SR P Q ρ' (k o) (k' o')
 | ρ,.setObj r o k,s'=>∃r' o' k',s'=.setObj r' o' k'∧ρ r=some r'∧OR ρ o o'∧SR P Q ρ k k'
 | ρ,.choose q k,s'=>∃k',s'=.choose q k'∧∀n,SR P Q ρ (k n) (k' n)
 | ρ,.program k,s'=>∃k',s'=.program k'∧SR P Q ρ (k P) (k' P)
 | _,.halt h,_=>tH h
 | _,.frozen _ k,_=>∀x,Dead (k x)
 | ρ,.mark m k,s'=>∃k',s'=.mark m k'∧m=.noRoom∧SR P Q ρ k k'
 | _,.freeze ..,_|_,.sys ..,_=>False
def pf{α β:Type}(Q:Ren→α→β→Prop):Prop:=∀ρ ρ',Le ρ ρ'→∀a b,Q ρ a b→Q ρ' a b
theorem SR.mono{P:Program}{α β:Type}{Q:Ren→α→β→Prop}(hQ:pf Q){s:Sem α}:∀ {ρ ρ':Ren} {s':Sem β},Le ρ ρ'→SR P Q ρ s s'→SR P Q ρ' s s':=by
 induction s with
 | pure a=>rintro ρ ρ' s' l ⟨b,e,h⟩;exact⟨b,e,hQ _ _ l _ _ h⟩
 | load m a k ih=>rintro ρ ρ' s' l ⟨a',k',e,hm,h,hk⟩;exact⟨a',k',e,hm,h.mono l,fun ρ2 l2=>hk ρ2 (.of l l2)⟩
 | store m a v k ih=>rintro ρ ρ' s' l ⟨a',v',k',e,hm,h,hv,hk⟩;exact⟨a',v',k',e,hm,h.mono l,hv.mono l,ih l hk⟩
 | new o k ih=>rintro ρ ρ' s' l ⟨o',k',e,h,hk⟩;exact⟨o',k',e,h.mono l,fun ρ2 l2=>hk ρ2 (.of l l2)⟩
 | shape r k ih=>rintro ρ ρ' s' l ⟨r',k',e,h,hk⟩;exact⟨r',k',e,l _ _ h,fun x=>ih x l (hk x)⟩
 | getObj r k ih=>rintro ρ ρ' s' l ⟨r',k',e,h,hk⟩;exact⟨r',k',e,l _ _ h,fun ρ2 l2=>hk ρ2 (.of l l2)⟩
 | setObj r o k ih=>rintro ρ ρ' s' l ⟨r',o',k',e,h,ho,hk⟩;exact⟨r',o',k',e,l _ _ h,ho.mono l,ih l hk⟩
 | choose q k ih=>rintro ρ ρ' s' l ⟨k',e,hk⟩;exact⟨k',e,fun n=>ih n l (hk n)⟩
 | program k ih=>rintro ρ ρ' s' l ⟨k',e,hk⟩;exact⟨k',e,ih P l hk⟩
 | halt h=>intros;assumption
 | freeze a n k ih=>intro ρ ρ' s' l h;exact h.elim
 | frozen a k ih=>intro ρ ρ' s' l h;exact h
 | sys c k ih=>intro ρ ρ' s' l h;exact h.elim
 | mark m k ih=>rintro ρ ρ' s' l ⟨k',e,hm,hk⟩;exact⟨k',e,hm,ih l hk⟩
theorem SR.bind{P:Program}{α β γ δ:Type}{Q:Ren→α→β→Prop}{R:Ren→γ→δ→Prop}{s:Sem α}{f:α→Sem γ}{f':β→Sem δ}:
 ∀ {ρ:Ren} {s':Sem β},dP ρ→SR P Q ρ s s'→(∀ρ',Ext ρ ρ'→∀a b,Q ρ' a b→SR P R ρ' (f a) (f' b))→SR P R ρ (s.bind f) (s'.bind f'):=by
 induction s with
 | pure a=>rintro ρ s' hi ⟨b,rfl,h⟩ hf;exact hf ρ (.refl hi) a b h
 | load m a k ih=>rintro ρ s' hi ⟨a',k',rfl,hm,h,hk⟩ hf;exact⟨a',_,rfl,hm,h,fun ρ2 l2 v v' hv=>ih v l2.2 (hk ρ2 l2 v v' hv) fun ρ3 l3=>hf ρ3 (l2.trans l3)⟩
 | store m a v k ih=>rintro ρ s' hi ⟨a',v',k',rfl,hm,h,hv,hk⟩ hf;exact⟨a',v',_,rfl,hm,h,hv,ih hi hk hf⟩
 | new o k ih=>rintro ρ s' hi ⟨o',k',rfl,h,hk⟩ hf;exact⟨o',_,rfl,h,fun ρ2 l2 r r' hr=>ih r l2.2 (hk ρ2 l2 r r' hr) fun ρ3 l3=>hf ρ3 (l2.trans l3)⟩
 | shape r k ih=>rintro ρ s' hi ⟨r',k',rfl,h,hk⟩ hf;exact⟨r',_,rfl,h,fun x=>ih x hi (hk x) hf⟩
 | getObj r k ih=>rintro ρ s' hi ⟨r',k',rfl,h,hk⟩ hf;exact⟨r',_,rfl,h,fun ρ2 l2 o o' ho=>ih o l2.2 (hk ρ2 l2 o o' ho) fun ρ3 l3=>hf ρ3 (l2.trans l3)⟩
 | setObj r o k ih=>rintro ρ s' hi ⟨r',o',k',rfl,h,ho,hk⟩ hf;exact⟨r',o',_,rfl,h,ho,ih hi hk hf⟩
 | choose q k ih=>rintro ρ s' hi ⟨k',rfl,hk⟩ hf;exact⟨_,rfl,fun n=>ih n hi (hk n) hf⟩
 | program k ih=>rintro ρ s' hi ⟨k',rfl,hk⟩ hf;exact⟨_,rfl,ih P hi hk hf⟩
 | halt h=>intros;assumption
 | freeze a n k ih=>intro ρ s' _ h;exact h.elim
 | frozen a k ih=>intro ρ s' _ h _;exact fun x=>(h x).bind f
 | sys c k ih=>intro ρ s' _ h;exact h.elim
 | mark m k ih=>rintro ρ s' hi ⟨k',rfl,hm,hk⟩ hf;exact⟨_,rfl,hm,ih hi hk hf⟩
theorem SR.bind'{P:Program}{α β γ δ:Type}{Q:Ren→α→β→Prop}{R:Ren→γ→δ→Prop}{s:Sem α}{f:α→Sem γ}{f':β→Sem δ}{ρ:Ren}{s':Sem β}(hi:dP ρ)
 (h:SR P Q ρ s s')(hf:∀ρ',Ext ρ ρ'→∀a b,Q ρ' a b→SR P R ρ' (f a) (f' b)):SR P R ρ (s >>= f) (s' >>= f'):=h.bind hi hf
theorem SR.pure{P:Program}{α β:Type}{Q:Ren→α→β→Prop}{ρ:Ren}{a:α}{b:β}(h:Q ρ a b):SR P Q ρ (Pure.pure a) (Pure.pure b):=⟨b,rfl,h⟩
theorem SR.imp{P:Program}{α β:Type}{Q Q':Ren→α→β→Prop}(hq:∀ρ a b,Q ρ a b→Q' ρ a b){s:Sem α}{s':Sem β}{ρ:Ren}(hi:dP ρ)(h:SR P Q ρ s s'):SR P Q' ρ s s':=by
 have:=h.bind hi (f:=Sem.pure) (f':=Sem.pure) (R:=Q') fun ρ' _ a b q=>⟨b,rfl,hq ρ' a b q⟩
 have e:∀ {γ:Type} (t:Sem γ),t.bind Sem.pure=t:=by
  intro γ t
  induction t <;> simp[Sem.bind, *]
 rwa[e,e] at this
end
section
variable[Inhabited aZ]
def Fz(w:World)(b:Nat):Prop:=∃c e f,w.heap[b]? =some (.cells c e f)∧∀o,o<c.size→f.1≤o∧o<f.2
def QJ(O C:Nat→Prop)(e:Event):Prop:=e=⟨.mark .noRoom,false,true⟩∨
 e.sync=false∧((∃a,e.loc=.cell a∧(O a.block∨(e.write=false∧C a.block)))∨(∃r,e.loc=.obj r∧O r))
structure Ran(C O O1:Nat→Prop)(ρ ρ1:Ren)(w w1 w' w1':World)(new:List Event):Prop where
 le:Le ρ ρ1
 wr:WR ρ1 w1 w1'
 tuned:kF w1 w1'
 tape:w1'.tape=w'.tape
 os:w1'.os=w'.os
 output:w1'.output=w'.output
 size:w'.heap.size≤w1'.heap.size
 other:∀b,b<w'.heap.size→¬ O b→w1'.heap[b]? =w'.heap[b]?
 own:∀b,O1 b↔O b∨(w'.heap.size≤b∧b<w1'.heap.size)
 cl:∀b b',ρ1 b=some b'→(Fz w1 b∧C b')∨O1 b'
 evs:∀e∈new,QJ O1 C e
variable{P:Program}
theorem WR.lt{ρ:Ren}{w w':World}(h:WR ρ w w'){b b':Nat}(e:ρ b=some b'):b<w.heap.size∧b'<w'.heap.size:=by
 obtain⟨o,o',h1,h2,_⟩:=h.obj b b' e
 exact⟨(Array.getElem?_eq_some_iff.1 h1).1,(Array.getElem?_eq_some_iff.1 h2).1⟩
theorem rQ{ρ:Ren}{w w':World}(h:WR ρ w w'){a a':Addr}(ha:AR ρ a a'){v:Value}(hv:w.cell? a=some v):∃v',w'.cell? a'=some v'∧VR ρ v v':=by
 obtain⟨o,o',h1,h2,ho⟩:=h.obj _ _ ha.1
 cases ho with
 | map k hk=>simp[World.cell?,h1] at hv
 | number l hk=>simp[World.cell?,h1] at hv
 | loop hk=>simp[World.cell?,h1] at hv
 | defs hk=>simp[World.cell?,h1] at hv
 | cells e hc hf=>
   simp only[World.cell?,h1] at hv
   simp only[World.cell?,h2,ha.2.1,ha.2.2]
   split at hv
   ·cases hv
   ·rename_i hs
    simp only[if_neg hs]
    rcases hc.get? a.off with⟨x,_⟩|⟨x,x',e1,e2,e3⟩
    ·rw[x] at hv;cases hv
    ·rw[e1] at hv;cases hv;exact⟨x',e2,e3⟩
theorem JR{ρ:Ren}{w w':World}(h:WR ρ w w'){a a':Addr}(ha:AR ρ a a')(hv:w.frozen? a=false):w'.frozen? a'=false:=by
 obtain⟨o,o',h1,h2,ho⟩:=h.obj _ _ ha.1
 cases ho with
 | map k hk=>simp[World.frozen?,h2]
 | number l hk=>simp[World.frozen?,h2]
 | loop hk=>simp[World.frozen?,h2]
 | defs hk=>simp[World.frozen?,h2]
 | cells e hc hf=>
   rename_i f f'
   obtain⟨lo,hi⟩:=f
   obtain⟨lo',hi'⟩:=f'
   simp only[World.frozen?,h1] at hv
   simp only[World.frozen?,h2,ha.2.1]
   by_cases c:lo'≤a.off∧a.off<hi'
   ·have:=hf a.off c.1 c.2
    simp only at this
    simp[this.1,this.2] at hv
   ·simp only[Bool.and_eq_false_iff,decide_eq_false_iff_not]
    omega
theorem uu{ρ:Ren}{w w':World}(h:WR ρ w w'){a:Addr}{b':Nat}(ha:ρ a.block=some b')(at_:Bool):∃e,w.farLoad P a at_=.error e:=by
 obtain⟨o,o',h1,h2,ho⟩:=h.obj _ _ ha
 cases ho <;> exact⟨_,by simp only[World.farLoad,h1];rfl⟩
theorem gE{ρ:Ren}{w w':World}(h:WR ρ w w'){a:Addr}{b':Nat}(ha:ρ a.block=some b')(v:Value)(at_:Bool):∃e,w.farStore P a v at_=.error e:=by
 obtain⟨o,o',h1,h2,ho⟩:=h.obj _ _ ha
 cases ho <;> exact⟨_,by simp only[World.farStore,h1];rfl⟩
theorem gu(w:World)(a:Addr)(v:Value){b:Nat}(h:b≠a.block):(w.setCell a v).heap[b]? =w.heap[b]?:=by
 simp[World.setCell,Array.getElem?_modify,Ne.symm h]
theorem nG(w:World)(a:Addr)(v:Value){c:Array Value}{e:TypeId}{f:Nat × Nat}(h:w.heap[a.block]? =some (.cells c e f)):
 (w.setCell a v).heap[a.block]? =some (.cells (if a.spot.isSome then c else c.setIfInBounds a.off v) e f):=by
 simp[World.setCell,Array.getElem?_modify,h]
theorem size_setCell(w:World)(a:Addr)(v:Value):(w.setCell a v).heap.size=w.heap.size:=by simp[World.setCell]
theorem WR.setCell{ρ:Ren}{w w':World}(h:WR ρ w w'){a a':Addr}(ha:AR ρ a a'){v v':Value}(hv:VR ρ v v'):WR ρ (w.setCell a v) (w'.setCell a' v'):=by
 refine⟨fun b b' e=>?_,h.inj⟩
 obtain⟨o,o',h1,h2,ho⟩:=h.obj b b' e
 by_cases hb:b=a.block
 ·subst hb
  have hb':b'=a'.block:=by have:=ha.1;rw[e] at this;exact Option.some.inj this
  subst hb'
  cases ho with
  | map k hk=>
    refine⟨_,_,?_,?_,.map k hk⟩
    ·simp[World.setCell,Array.getElem?_modify,h1]
    ·simp[World.setCell,Array.getElem?_modify,h2]
  | number k hk=>
    refine⟨_,_,?_,?_,.number k hk⟩
    ·simp[World.setCell,Array.getElem?_modify,h1]
    ·simp[World.setCell,Array.getElem?_modify,h2]
  | loop hk=>
    refine⟨_,_,?_,?_,.loop hk⟩
    ·simp[World.setCell,Array.getElem?_modify,h1]
    ·simp[World.setCell,Array.getElem?_modify,h2]
  | defs hk=>
    refine⟨_,_,?_,?_,.defs hk⟩
    ·simp[World.setCell,Array.getElem?_modify,h1]
    ·simp[World.setCell,Array.getElem?_modify,h2]
  | cells e1 hc hf=>
    refine⟨_,_,nG w a v h1,nG w' a' v' h2,?_⟩
    rw[ha.2.1,ha.2.2]
    split
    ·exact .cells e1 hc hf
    ·exact .cells e1 (hc.set _ hv) hf
 ·have hb':b'≠a'.block:=fun e2=>hb (h.inj _ _ _ e (by rw[e2];exact ha.1))
  exact⟨o,o',by rw[gu _ _ _ hb];exact h1,by rw[gu _ _ _ hb'];exact h2,ho⟩
theorem Fz.setCell{w:World}{a:Addr}{v:Value}{b:Nat}(h:Fz w b)(ha:∀c e f,w.heap[a.block]? =some (.cells c e f)→¬ (f.1≤a.off∧a.off<f.2)∧a.off<c.size):Fz (w.setCell a v) b:=by
 obtain⟨c,e,f,h1,h2⟩:=h
 by_cases hb:b=a.block
 ·subst hb
  obtain⟨h3,h4⟩:=ha c e f h1
  exact absurd (h2 _ h4) h3
 ·exact⟨c,e,f,by rw[gu _ _ _ hb];exact h1,h2⟩
theorem G8{ρ:Ren}{C O:Nat→Prop}{w:World}(hc:∀b b',ρ b=some b'→(Fz w b∧C b')∨O b'){a a':Addr}(ha:AR ρ a a'){v:Value}(hv:w.cell? a=some v)(hf:w.frozen? a=false):O a'.block:=by
 rcases hc _ _ ha.1 with⟨⟨c,e,f,h1,h2⟩,_⟩|h
 ·obtain⟨lo,hi⟩:=f
  simp only[World.cell?,h1] at hv
  split at hv
  ·cases hv
  ·have:=h2 a.off (Array.getElem?_eq_some_iff.1 hv).1
   simp only[World.frozen?,h1] at hf
   simp only at this
   simp[this.1,this.2] at hf
 ·exact h
theorem kF.draw{w w':World}(h:kF w w'):kF {w with drawn:=w.drawn+1 } {w' with drawn:=w'.drawn+1 }:=by
 intro k q
 have:=h (1+k) q
 simpa only[Nat.add_assoc] using this
def Ren.put(ρ:Ren)(b b':Nat):Ren:=fun x=>if x=b then some b' else ρ x
theorem WR.new{ρ:Ren}{w w':World}(h:WR ρ w w'){o o':Obj}(ho:OR ρ o o'):Le ρ (Ren.put ρ w.heap.size w'.heap.size)∧WR (Ren.put ρ w.heap.size w'.heap.size) {w with heap:=w.heap.push o } {w' with heap:=w'.heap.push o' }:=by
 have le:Le ρ (Ren.put ρ w.heap.size w'.heap.size):=fun b b' e=>by
  have:=(h.lt e).1
  simp only[Ren.put]
  rw[if_neg zo];exact e
 refine⟨le,⟨fun b b' e=>?_,fun a b c ea eb=>?_⟩⟩
 ·simp only[Ren.put] at e
  split at e
  ·rename_i hb
   subst hb;cases e
   exact⟨o,o',zs,zs,ho.mono le⟩
  ·obtain⟨x,x',h1,h2,h3⟩:=h.obj b b' e
   have l1:=(h.lt e).1
   have l2:=(h.lt e).2
   exact⟨x,x',by simp only[Array.getElem?_push_lt l1];rw[← h1,Array.getElem?_eq_getElem l1],by simp only[Array.getElem?_push_lt l2];rw[← h2,Array.getElem?_eq_getElem l2],h3.mono le⟩
 ·simp only[Ren.put] at ea eb
  split at ea <;> split at eb
  ·omega
  ·cases ea;have:=(h.lt eb).2;omega
  ·cases eb;have:=(h.lt ea).2;omega
  ·exact h.inj _ _ _ ea eb
theorem Fz.push{w:World}{o:Obj}{b:Nat}(h:Fz w b):Fz {w with heap:=w.heap.push o } b:=by
 obtain⟨c,e,f,h1,h2⟩:=h
 have l:=(Array.getElem?_eq_some_iff.1 h1).1
 exact⟨c,e,f,by simp only[Array.getElem?_push_lt l];rw[← h1,Array.getElem?_eq_getElem l],h2⟩
theorem Pz{ρ:Ren}{w w':World}(h:WR ρ w w'){r r':Nat}(e:ρ r=some r'):w'.shape? r'=w.shape? r:=by
 obtain⟨o,o',h1,h2,ho⟩:=h.obj _ _ e
 cases ho with
 | map k hk=>simp[World.shape?,h1,h2]
 | number k hk=>simp[World.shape?,h1,h2]
 | loop hk=>simp[World.shape?,h1,h2]
 | defs hk=>simp[World.shape?,h1,h2]
 | cells e hc hf=>simp[World.shape?,h1,h2,hc.1]
theorem WR.setObj{ρ:Ren}{w w':World}(h:WR ρ w w'){r r':Nat}(e:ρ r=some r'){o o':Obj}(ho:OR ρ o o'):WR ρ {w with heap:=w.heap.setIfInBounds r o } {w' with heap:=w'.heap.setIfInBounds r' o' }:=by
 refine⟨fun b b' eb=>?_,h.inj⟩
 by_cases hb:b=r
 ·subst hb
  have hb':b'=r':=by rw[e] at eb;exact(Option.some.inj eb).symm
  subst hb'
  obtain⟨l1,l2⟩:=h.lt e
  exact⟨o,o',by simp[l1],by simp[l2],ho⟩
 ·have hb':b'≠r':=fun e2=>hb (h.inj _ _ _ eb (by rw[e2];exact e))
  obtain⟨x,x',h1,h2,h3⟩:=h.obj b b' eb
  exact⟨x,x',by simp only[Array.getElem?_setIfInBounds_ne (Ne.symm hb)];exact h1,by simp only[Array.getElem?_setIfInBounds_ne (Ne.symm hb')];exact h2,h3⟩
theorem XP{ρ:Ren}{v v':Value}(h:VR ρ v v')(h1:∀c,v≠.agg c)(h2:∀c,v≠.tuple c):(∀c,v'≠.agg c)∧(∀c,v'≠.tuple c):=by
 cases h <;> first|exact absurd rfl (h1 _)|exact absurd rfl (h2 _)|exact⟨zs,zs⟩
theorem run_store{α:Type}{m:Mode}{a:Addr}{v:Value}{k:Sem α}{w:World}(h1:∀c,v≠.agg c)(h2:∀c,v≠.tuple c):(Sem.store m a v k).run P w=match w.cell? a with
 | some _=>if w.frozen? a then .halt (.unsupported (.unsafePointer "a write to bytes that a string shares")) w else k.run P (w.setCell a v)
 | none=>match w.farStore P a v (m == .atomic) with
   | .ok (w,_)=>k.run P w
   | .error h=>.halt h w:=by
 cases v <;> first|rfl|exact absurd rfl (h1 _)|exact absurd rfl (h2 _)
theorem KR{α:Type}{m:Mode}{a:Addr}{v:Value}{k:Sem α}{w:World}{es:Array Event}(h1:∀c,v≠.agg c)(h2:∀c,v≠.tuple c){x:Value}(hx:w.cell? a=some x)(hf:w.frozen? a=false):
 (Sem.store m a v k).runT P w es=k.runT P (w.setCell a v) (es.push ⟨.cell a,true,m == .atomic⟩):=by
 have e:(Sem.store m a v k).runT P w es=match w.cell? a with
  | some _=>
    if w.frozen? a then(.halt (.unsupported (.unsafePointer "a write to bytes that a string shares")) w,es)
    else k.runT P (w.setCell a v) (es.push ⟨.cell a,true,m == .atomic⟩)
  | none=>match w.farStore P a v (m == .atomic) with
    | .ok (w,touched)=>k.runT P w (es ++ touched.toArray.map (⟨.cell ·,true,m == .atomic⟩))
    | .error h=>(.halt h w,es):=by
  cases v <;> first|rfl|exact absurd rfl (h1 _)|exact absurd rfl (h2 _)
 rw[e,hx]
 simp[hf]
theorem Ran.trans{C O O1 O2:Nat→Prop}{ρ ρ1 ρ2:Ren}{w w1 w2 v v1 v2:World}{n m:List Event}(h:Ran C O O1 ρ ρ1 w w1 v v1 n)(k:Ran C O1 O2 ρ1 ρ2 w1 w2 v1 v2 m):Ran C O O2 ρ ρ2 w w2 v v2 (n ++ m):=by
 refine⟨h.le.trans k.le,k.wr,k.tuned,k.tape.trans h.tape,k.os.trans h.os,k.output.trans h.output,Nat.le_trans h.size k.size,fun b hb ho=>?_,fun b=>?_,k.cl,fun e he=>?_⟩
 ·rw[k.other b (Nat.lt_of_lt_of_le hb h.size) (fun o1=>by rcases(h.own b).1 o1 with o|⟨o,_⟩;exact ho o;omega)]
  exact h.other b hb ho
 ·rw[k.own,h.own]
  have:=h.size
  have:=k.size
  constructor
  ·rintro((a|⟨a,b⟩)|⟨a,b⟩)
   ·exact .inl a
   ·exact .inr ⟨a,zo⟩
   ·exact .inr ⟨zo,b⟩
  ·rintro(a|⟨a,b⟩)
   ·exact .inl (.inl a)
   ·rcases Nat.lt_or_ge ‹Nat› v1.heap.size with c|c
    ·exact .inl (.inr ⟨a,c⟩)
    ·exact .inr ⟨c,b⟩
 ·rcases List.mem_append.1 he with he|he
  ·rcases h.evs e he with e0|⟨s,q⟩
   ·exact .inl e0
   refine .inr ⟨s,?_⟩
   rcases q with⟨a,ea,q|q⟩|⟨r,er,q⟩
   ·exact .inl ⟨a,ea,.inl ((k.own _).2 (.inl q))⟩
   ·exact .inl ⟨a,ea,.inr q⟩
   ·exact .inr ⟨r,er,(k.own _).2 (.inl q)⟩
  ·exact k.evs e he
theorem Ran.still{C O:Nat→Prop}{ρ:Ren}{w w1 v v1:World}{n:List Event}(wr:WR ρ w1 v1)(tu:kF w1 v1)(tape:v1.tape=v.tape)(os:v1.os=v.os)(out:v1.output=v.output)(size:v1.heap.size=v.heap.size)
 (other:∀b,b<v.heap.size→¬ O b→v1.heap[b]? =v.heap[b]?)(cl:∀b b',ρ b=some b'→(Fz w1 b∧C b')∨O b')(evs:∀e∈n,QJ O C e):Ran C O O ρ ρ w w1 v v1 n:=
 ⟨.refl ρ,wr,tu,tape,os,out,zo,other,fun b=>⟨.inl,fun h=>h.elim id fun⟨a,b⟩=>zo⟩,cl,evs⟩
theorem Dead.run{α:Type}{s:Sem α}(h:Dead s):∀w:World,(∀a w1,s.run P w≠.ok a w1)∧∀e w1,s.run P w=.halt e w1→tH e:=by
 induction s with
 | shape r k ih=>intro w;exact ih _ (h _) w
 | frozen r k ih=>intro w;exact ih _ (h _) w
 | choose q k ih=>
   intro w
   simp only[Sem.run]
   split
   ·exact ih _ (h _) _
   ·exact ih _ (h _) _
 | mark m k ih=>intro w;exact ih h w
 | halt e=>intro w;exact⟨fun a w1 e=>by simp[Sem.run] at e,fun e' w1 e2=>by simp only[Sem.run,Result.halt.injEq] at e2;rw[← e2.1];exact h⟩
 | _=>exact h.elim
theorem SR.runT{α β:Type}{Q:Ren→α→β→Prop}{C:Nat→Prop}{s:Sem α}:∀ {ρ:Ren} {s':Sem β} {w w':World} {O:Nat→Prop} {es:Array Event},SR P Q ρ s s'→WR ρ w w'→kF w w'→
 (∀b b',ρ b=some b'→(Fz w b∧C b')∨O b')→∀ {a:α} {w1:World},s.run P w=.ok a w1→
 ∃ρ1 b w1' O1 new,s'.runT P w' es=(.ok b w1',es ++ new.toArray)∧Q ρ1 a b∧Ran C O O1 ρ ρ1 w w1 w' w1' new:=by
 induction s with
 | pure a=>
   rintro ρ s' w w' O es ⟨b,rfl,hq⟩ hw ht hc a' w1 hr
   simp only[Sem.run,Result.ok.injEq] at hr
   obtain⟨rfl,rfl⟩:=hr
   exact⟨ρ,b,w',O,[],by simp[Sem.runT],hq,.still hw ht rfl rfl rfl rfl (fun _ _ _=>rfl) hc zs⟩
 | load m a k ih=>
   rintro ρ s' w w' O es ⟨a',k',rfl,rfl,ha,hk⟩ hw ht hc x w1 hr
   cases hv:w.cell? a with
   | none=>
     obtain⟨e,he⟩:=uu (P:=P) hw ha.1 (a:=a) (Mode.plain == Mode.atomic)
     simp only[Sem.run,hv,he] at hr
     cases hr
   | some v=>
     obtain⟨v',hv',tp⟩:=rQ hw ha hv
     simp only[Sem.run,hv] at hr
     obtain⟨ρ1,b,w1',O1,new,h1,h2,h3⟩:=ih v (es:=es.push ⟨.cell a',false,false⟩) (hk ρ (.refl hw.inj) v v' tp) hw ht hc hr
     refine⟨ρ1,b,w1',O1,⟨.cell a',false,false⟩ :: new,?_,h2,?_⟩
     ·simp only[Sem.runT,hv']
      have:(Mode.plain == Mode.atomic)=false:=rfl
      rw[this,h1];simp
     ·refine Ran.trans (n:=[⟨.cell a',false,false⟩]) (.still hw ht rfl rfl rfl rfl (fun _ _ _=>rfl) hc ?_) h3
      intro e he
      simp only[List.mem_singleton] at he
      subst he
      refine .inr ⟨rfl,.inl ⟨a',rfl,?_⟩⟩
      rcases hc _ _ ha.1 with h|h
      ·exact .inr ⟨rfl,h.2⟩
      ·exact .inl h
 | store m a v k ih=>
   rintro ρ s' w w' O es ⟨a',v',k',rfl,rfl,ha,hv,hk⟩ hw ht hc x w1 hr
   by_cases h1:∀c,v≠.agg c
   ·by_cases h2:∀c,v≠.tuple c
    ·obtain⟨h1',h2'⟩:=XP hv h1 h2
     rw[run_store h1 h2] at hr
     cases hx:w.cell? a with
     | none=>
       obtain⟨e,he⟩:=gE (P:=P) hw ha.1 (a:=a) v (Mode.plain == Mode.atomic)
       simp only[hx,he] at hr
       cases hr
     | some x0=>
       simp only[hx] at hr
       cases hf:w.frozen? a with
       | true=>simp only[hf,if_true] at hr;cases hr
       | false=>
         simp only[hf,Bool.false_eq_true,if_false] at hr
         obtain⟨x0',hx',_⟩:=rQ hw ha hx
         have hf':=JR hw ha hf
         have hO:=G8 hc ha hx hf
         have hc2:∀b b',ρ b=some b'→(Fz (w.setCell a v) b∧C b')∨O b':=fun b b' e=>by
          rcases hc b b' e with⟨h,hC⟩|h
          ·refine .inl ⟨h.setCell fun c e f hh=>?_,hC⟩
           simp only[World.cell?,hh] at hx
           simp only[World.frozen?,hh] at hf
           split at hx
           ·cases hx
           ·refine⟨fun⟨p,q⟩=>?_,(Array.getElem?_eq_some_iff.1 hx).1⟩
            simp[p,q] at hf
          ·exact .inr h
         have ht2:kF (w.setCell a v) (w'.setCell a' v'):=ht
         obtain⟨ρ1,b,w1',O1,new,r1,r2,r3⟩:=ih (es:=es.push ⟨.cell a',true,false⟩) hk (hw.setCell ha hv) ht2 hc2 hr
         refine⟨ρ1,b,w1',O1,⟨.cell a',true,false⟩ :: new,?_,r2,?_⟩
         ·rw[KR h1' h2' hx' hf']
          have:(Mode.plain == Mode.atomic)=false:=rfl
          rw[this,r1];simp
         ·refine Ran.trans (n:=[⟨.cell a',true,false⟩]) (.still (hw.setCell ha hv) ht2 rfl rfl rfl (size_setCell _ _ _) (fun b _ ho=>gu _ _ _ (fun e=>ho (e ▸ hO))) hc2 ?_) r3
          intro e he
          simp only[List.mem_singleton] at he
          subst he
          exact .inr ⟨rfl,.inl ⟨a',rfl,.inl hO⟩⟩
    ·simp only[ne_eq,Classical.not_forall,Classical.not_not] at h2
     obtain⟨c,rfl⟩:=h2
     simp only[Sem.run] at hr
     cases hr
   ·simp only[ne_eq,Classical.not_forall,Classical.not_not] at h1
    obtain⟨c,rfl⟩:=h1
    simp only[Sem.run] at hr
    cases hr
 | new o k ih=>
   rintro ρ s' w w' O es ⟨o',k',rfl,ho,hk⟩ hw ht hc x w1 hr
   simp only[Sem.run] at hr
   obtain⟨le,hw2⟩:=hw.new ho
   have hc2:∀b b',Ren.put ρ w.heap.size w'.heap.size b=some b'→(Fz {w with heap:=w.heap.push o } b∧C b')∨(O b'∨b'=w'.heap.size):=fun b b' e=>by
    simp only[Ren.put] at e
    split at e
    ·cases e;exact .inr (.inr rfl)
    ·rcases hc b b' e with⟨h,hC⟩|h
     ·exact .inl ⟨h.push,hC⟩
     ·exact .inr (.inl h)
   have ht2:kF {w with heap:=w.heap.push o } {w' with heap:=w'.heap.push o' }:=ht
   obtain⟨ρ1,b,w1',O1,new,r1,r2,r3⟩:=ih w.heap.size (es:=es) (hk _ ⟨le,hw2.inj⟩ w.heap.size w'.heap.size (by simp[Ren.put])) hw2 ht2 hc2 hr
   refine⟨ρ1,b,w1',O1,new,?_,r2,?_⟩
   ·simp only[Sem.runT];exact r1
   ·have h0:Ran C O (fun b=>O b∨b=w'.heap.size) ρ (Ren.put ρ w.heap.size w'.heap.size) w {w with heap:=w.heap.push o } w' {w' with heap:=w'.heap.push o' } []:=by
     refine⟨le,hw2,ht2,rfl,rfl,rfl,zs,fun b hb _=>by simp only[Array.getElem?_push_lt hb];rw[Array.getElem?_eq_getElem hb],fun b=>?_,hc2,zs⟩
     simp only[Array.size_push]
     constructor
     ·rintro(h|h)
      ·exact .inl h
      ·exact .inr zo
     ·rintro(h|h)
      ·exact .inl h
      ·exact .inr zo
    have:=h0.trans r3
    simpa using this
 | shape r k ih=>
   rintro ρ s' w w' O es ⟨r',k',rfl,e,hk⟩ hw ht hc x w1 hr
   simp only[Sem.run] at hr
   obtain⟨ρ1,b,w1',O1,new,h1,h2,h3⟩:=ih (w.shape? r) (es:=es) (hk _) hw ht hc hr
   exact⟨ρ1,b,w1',O1,new,by simp only[Sem.runT,Pz hw e];exact h1,h2,h3⟩
 | getObj r k ih=>
   rintro ρ s' w w' O es ⟨r',k',rfl,e,hk⟩ hw ht hc x w1 hr
   obtain⟨o,o',h1,h2,ho⟩:=hw.obj _ _ e
   cases ho with
   | cells e1 hc1 hf1=>simp only[Sem.run,h1] at hr;cases hr
   | map c hm=>
     simp only[Sem.run,h1] at hr
     obtain⟨ρ1,b,w1',O1,new,r1,r2,r3⟩:=ih _ (es:=es.push ⟨.obj r',false,false⟩) (hk ρ (.refl hw.inj) _ _ (.map c hm)) hw ht hc hr
     refine⟨ρ1,b,w1',O1,⟨.obj r',false,false⟩ :: new,?_,r2,?_⟩
     ·simp only[Sem.runT,h2]
      show(k' _).runT P w' (es.push ⟨.obj r',false,false⟩)=_
      rw[r1];simp
     ·refine Ran.trans (n:=[⟨.obj r',false,false⟩]) (.still hw ht rfl rfl rfl rfl (fun _ _ _=>rfl) hc ?_) r3
      intro e' he
      simp only[List.mem_singleton] at he
      subst he
      refine .inr ⟨rfl,.inr ⟨r',rfl,?_⟩⟩
      rcases hc _ _ e with⟨⟨c,e2,f,h3,_⟩,_⟩|h
      ·rw[h1] at h3;cases h3
      ·exact h
   | number c hm=>
     simp only[Sem.run,h1] at hr
     obtain⟨ρ1,b,w1',O1,new,r1,r2,r3⟩:=ih _ (es:=es.push ⟨.obj r',false,false⟩) (hk ρ (.refl hw.inj) _ _ (.number c hm)) hw ht hc hr
     refine⟨ρ1,b,w1',O1,⟨.obj r',false,false⟩ :: new,?_,r2,?_⟩
     ·simp only[Sem.runT,h2]
      show(k' _).runT P w' (es.push ⟨.obj r',false,false⟩)=_
      rw[r1];simp
     ·refine Ran.trans (n:=[⟨.obj r',false,false⟩]) (.still hw ht rfl rfl rfl rfl (fun _ _ _=>rfl) hc ?_) r3
      intro e' he
      simp only[List.mem_singleton] at he
      subst he
      refine .inr ⟨rfl,.inr ⟨r',rfl,?_⟩⟩
      rcases hc _ _ e with⟨⟨c,e2,f,h3,_⟩,_⟩|h
      ·rw[h1] at h3;cases h3
      ·exact h
   | loop hm=>
     simp only[Sem.run,h1] at hr
     obtain⟨ρ1,b,w1',O1,new,r1,r2,r3⟩:=ih _ (es:=es.push ⟨.obj r',false,false⟩) (hk ρ (.refl hw.inj) _ _ (.loop hm)) hw ht hc hr
     refine⟨ρ1,b,w1',O1,⟨.obj r',false,false⟩ :: new,?_,r2,?_⟩
     ·simp only[Sem.runT,h2]
      show(k' _).runT P w' (es.push ⟨.obj r',false,false⟩)=_
      rw[r1];simp
     ·refine Ran.trans (n:=[⟨.obj r',false,false⟩]) (.still hw ht rfl rfl rfl rfl (fun _ _ _=>rfl) hc ?_) r3
      intro e' he
      simp only[List.mem_singleton] at he
      subst he
      refine .inr ⟨rfl,.inr ⟨r',rfl,?_⟩⟩
      rcases hc _ _ e with⟨⟨c,e2,f,h3,_⟩,_⟩|h
      ·rw[h1] at h3;cases h3
      ·exact h
   | defs hm=>
     simp only[Sem.run,h1] at hr
     obtain⟨ρ1,b,w1',O1,new,r1,r2,r3⟩:=ih _ (es:=es.push ⟨.obj r',false,false⟩) (hk ρ (.refl hw.inj) _ _ (.defs hm)) hw ht hc hr
     refine⟨ρ1,b,w1',O1,⟨.obj r',false,false⟩ :: new,?_,r2,?_⟩
     ·simp only[Sem.runT,h2]
      show(k' _).runT P w' (es.push ⟨.obj r',false,false⟩)=_
      rw[r1];simp
     ·refine Ran.trans (n:=[⟨.obj r',false,false⟩]) (.still hw ht rfl rfl rfl rfl (fun _ _ _=>rfl) hc ?_) r3
      intro e' he
      simp only[List.mem_singleton] at he
      subst he
      refine .inr ⟨rfl,.inr ⟨r',rfl,?_⟩⟩
      rcases hc _ _ e with⟨⟨c,e2,f,h3,_⟩,_⟩|h
      ·rw[h1] at h3;cases h3
      ·exact h
 | setObj r o k ih=>
   rintro ρ s' w w' O es ⟨r',o',k',rfl,e,ho,hk⟩ hw ht hc x w1 hr
   obtain⟨p,p',h1,h2,hp⟩:=hw.obj _ _ e
   cases hp with
   | cells e1 hc1 hf1=>simp only[Sem.run,h1] at hr;cases hr
   | map c hm=>
     simp only[Sem.run,h1] at hr
     have hO:O r':=by
      rcases hc _ _ e with⟨⟨c,e2,f,h3,_⟩,_⟩|h
      ·rw[h1] at h3;cases h3
      ·exact h
     have hw2:=hw.setObj e ho
     have hc2:∀b b',ρ b=some b'→(Fz {w with heap:=w.heap.setIfInBounds r o } b∧C b')∨O b':=fun b b' eb=>by
      rcases hc b b' eb with⟨⟨c,e2,f,h3,h4⟩,hC⟩|h
      ·refine .inl ⟨⟨c,e2,f,?_,h4⟩,hC⟩
       have:r≠b:=fun er=>by subst er;rw[h1] at h3;cases h3
       simp only[Array.getElem?_setIfInBounds_ne this];exact h3
      ·exact .inr h
     have ht2:kF {w with heap:=w.heap.setIfInBounds r o } {w' with heap:=w'.heap.setIfInBounds r' o' }:=ht
     obtain⟨ρ1,b,w1',O1,new,r1,r2,r3⟩:=ih (es:=es.push ⟨.obj r',true,o'.isChan⟩) hk hw2 ht2 hc2 hr
     have hch:o'.isChan=false:=by cases ho <;> rfl
     refine⟨ρ1,b,w1',O1,⟨.obj r',true,false⟩ :: new,?_,r2,?_⟩
     ·simp only[Sem.runT,h2]
      rw[r1,hch];simp
     ·refine Ran.trans (n:=[⟨.obj r',true,false⟩]) (.still hw2 ht2 rfl rfl rfl zs (fun b _ hb=>?_) hc2 ?_) r3
      ·have:r'≠b:=fun er=>hb (er ▸ hO)
       simp only[Array.getElem?_setIfInBounds_ne this]
      ·intro e' he
       simp only[List.mem_singleton] at he
       subst he
       exact .inr ⟨rfl,.inr ⟨r',rfl,hO⟩⟩
   | number c hm=>
     simp only[Sem.run,h1] at hr
     have hO:O r':=by
      rcases hc _ _ e with⟨⟨c,e2,f,h3,_⟩,_⟩|h
      ·rw[h1] at h3;cases h3
      ·exact h
     have hw2:=hw.setObj e ho
     have hc2:∀b b',ρ b=some b'→(Fz {w with heap:=w.heap.setIfInBounds r o } b∧C b')∨O b':=fun b b' eb=>by
      rcases hc b b' eb with⟨⟨c,e2,f,h3,h4⟩,hC⟩|h
      ·refine .inl ⟨⟨c,e2,f,?_,h4⟩,hC⟩
       have:r≠b:=fun er=>by subst er;rw[h1] at h3;cases h3
       simp only[Array.getElem?_setIfInBounds_ne this];exact h3
      ·exact .inr h
     have ht2:kF {w with heap:=w.heap.setIfInBounds r o } {w' with heap:=w'.heap.setIfInBounds r' o' }:=ht
     obtain⟨ρ1,b,w1',O1,new,r1,r2,r3⟩:=ih (es:=es.push ⟨.obj r',true,o'.isChan⟩) hk hw2 ht2 hc2 hr
     have hch:o'.isChan=false:=by cases ho <;> rfl
     refine⟨ρ1,b,w1',O1,⟨.obj r',true,false⟩ :: new,?_,r2,?_⟩
     ·simp only[Sem.runT,h2]
      rw[r1,hch];simp
     ·refine Ran.trans (n:=[⟨.obj r',true,false⟩]) (.still hw2 ht2 rfl rfl rfl zs (fun b _ hb=>?_) hc2 ?_) r3
      ·have:r'≠b:=fun er=>hb (er ▸ hO)
       simp only[Array.getElem?_setIfInBounds_ne this]
      ·intro e' he
       simp only[List.mem_singleton] at he
       subst he
       exact .inr ⟨rfl,.inr ⟨r',rfl,hO⟩⟩
   | loop hm=>
     simp only[Sem.run,h1] at hr
     have hO:O r':=by
      rcases hc _ _ e with⟨⟨c,e2,f,h3,_⟩,_⟩|h
      ·rw[h1] at h3;cases h3
      ·exact h
     have hw2:=hw.setObj e ho
     have hc2:∀b b',ρ b=some b'→(Fz {w with heap:=w.heap.setIfInBounds r o } b∧C b')∨O b':=fun b b' eb=>by
      rcases hc b b' eb with⟨⟨c,e2,f,h3,h4⟩,hC⟩|h
      ·refine .inl ⟨⟨c,e2,f,?_,h4⟩,hC⟩
       have:r≠b:=fun er=>by subst er;rw[h1] at h3;cases h3
       simp only[Array.getElem?_setIfInBounds_ne this];exact h3
      ·exact .inr h
     have ht2:kF {w with heap:=w.heap.setIfInBounds r o } {w' with heap:=w'.heap.setIfInBounds r' o' }:=ht
     obtain⟨ρ1,b,w1',O1,new,r1,r2,r3⟩:=ih (es:=es.push ⟨.obj r',true,o'.isChan⟩) hk hw2 ht2 hc2 hr
     have hch:o'.isChan=false:=by cases ho <;> rfl
     refine⟨ρ1,b,w1',O1,⟨.obj r',true,false⟩ :: new,?_,r2,?_⟩
     ·simp only[Sem.runT,h2]
      rw[r1,hch];simp
     ·refine Ran.trans (n:=[⟨.obj r',true,false⟩]) (.still hw2 ht2 rfl rfl rfl zs (fun b _ hb=>?_) hc2 ?_) r3
      ·have:r'≠b:=fun er=>hb (er ▸ hO)
       simp only[Array.getElem?_setIfInBounds_ne this]
      ·intro e' he
       simp only[List.mem_singleton] at he
       subst he
       exact .inr ⟨rfl,.inr ⟨r',rfl,hO⟩⟩
   | defs hm=>
     simp only[Sem.run,h1] at hr
     have hO:O r':=by
      rcases hc _ _ e with⟨⟨c,e2,f,h3,_⟩,_⟩|h
      ·rw[h1] at h3;cases h3
      ·exact h
     have hw2:=hw.setObj e ho
     have hc2:∀b b',ρ b=some b'→(Fz {w with heap:=w.heap.setIfInBounds r o } b∧C b')∨O b':=fun b b' eb=>by
      rcases hc b b' eb with⟨⟨c,e2,f,h3,h4⟩,hC⟩|h
      ·refine .inl ⟨⟨c,e2,f,?_,h4⟩,hC⟩
       have:r≠b:=fun er=>by subst er;rw[h1] at h3;cases h3
       simp only[Array.getElem?_setIfInBounds_ne this];exact h3
      ·exact .inr h
     have ht2:kF {w with heap:=w.heap.setIfInBounds r o } {w' with heap:=w'.heap.setIfInBounds r' o' }:=ht
     obtain⟨ρ1,b,w1',O1,new,r1,r2,r3⟩:=ih (es:=es.push ⟨.obj r',true,o'.isChan⟩) hk hw2 ht2 hc2 hr
     have hch:o'.isChan=false:=by cases ho <;> rfl
     refine⟨ρ1,b,w1',O1,⟨.obj r',true,false⟩ :: new,?_,r2,?_⟩
     ·simp only[Sem.runT,h2]
      rw[r1,hch];simp
     ·refine Ran.trans (n:=[⟨.obj r',true,false⟩]) (.still hw2 ht2 rfl rfl rfl zs (fun b _ hb=>?_) hc2 ?_) r3
      ·have:r'≠b:=fun er=>hb (er ▸ hO)
       simp only[Array.getElem?_setIfInBounds_ne this]
      ·intro e' he
       simp only[List.mem_singleton] at he
       subst he
       exact .inr ⟨rfl,.inr ⟨r',rfl,hO⟩⟩
 | choose q k ih=>
   rintro ρ s' w w' O es ⟨k',rfl,hk⟩ hw ht hc x w1 hr
   simp only[Sem.run] at hr
   by_cases hf:q.forced=true
   ·rw[if_pos hf] at hr
    obtain⟨ρ1,b,w1',O1,new,h1,h2,h3⟩:=ih 0 (es:=es) (hk _) hw ht hc hr
    exact⟨ρ1,b,w1',O1,new,by simp only[Sem.runT,if_pos hf];exact h1,h2,h3⟩
   ·rw[if_neg hf] at hr
    have hq:w'.tape w'.drawn q=w.tape w.drawn q:=(ht 0 q).symm
    have hw2:WR ρ {w with drawn:=w.drawn+1 } {w' with drawn:=w'.drawn+1 }:=⟨hw.obj,hw.inj⟩
    have hc2:∀b b',ρ b=some b'→(Fz {w with drawn:=w.drawn+1 } b∧C b')∨O b':=hc
    obtain⟨ρ1,b,w1',O1,new,h1,h2,h3⟩:=ih _ (es:=es) (hk (q.cut (w.tape w.drawn q))) hw2 ht.draw hc2 hr
    refine⟨ρ1,b,w1',O1,new,by simp only[Sem.runT,if_neg hf,hq];exact h1,h2,?_⟩
    have:=Ran.trans (n:=[]) (O:=O) (w:=w) (v:=w') (.still hw2 ht.draw rfl rfl rfl rfl (fun _ _ _=>rfl) hc2 zs) h3
    simpa using this
 | program k ih=>
   rintro ρ s' w w' O es ⟨k',rfl,hk⟩ hw ht hc x w1 hr
   simp only[Sem.run] at hr
   obtain⟨ρ1,b,w1',O1,new,h1,h2,h3⟩:=ih P (es:=es) hk hw ht hc hr
   exact⟨ρ1,b,w1',O1,new,by simp only[Sem.runT];exact h1,h2,h3⟩
 | halt h=>intro ρ s' w w' O es _ _ _ _ a w1 hr;simp only[Sem.run] at hr;cases hr
 | freeze a n k ih=>intro ρ s' w w' O es h;exact h.elim
 | frozen a k ih=>intro ρ s' w w' O es h _ _ _ a1 w1 hr;simp only[Sem.run] at hr;exact((h _).run (P:=P) w).1 _ _ hr |>.elim
 | sys c k ih=>intro ρ s' w w' O es h;exact h.elim
 | mark m k ih=>
   rintro ρ s' w w' O es ⟨k',rfl,rfl,hk⟩ hw ht hc x w1 hr
   simp only[Sem.run] at hr
   obtain⟨ρ1,b,w1',O1,new,h1,h2,h3⟩:=ih (es:=es.push ⟨.mark .noRoom,false,true⟩) hk hw ht hc hr
   refine⟨ρ1,b,w1',O1,⟨.mark .noRoom,false,true⟩ :: new,by simp only[Sem.runT];rw[h1];simp,h2,?_⟩
   exact Ran.trans (n:=[⟨.mark .noRoom,false,true⟩]) (.still hw ht rfl rfl rfl rfl (fun _ _ _=>rfl) hc fun e he=>.inl (List.mem_singleton.1 he)) h3
end
end Go.cZ
