package entry

import (
	"cachet/api"
	"cachet/coder"
)

// statementForm is what tells that a text is a statement.
const statementForm = "https://in-toto.io/Statement/v1"

// subjectsOf is the subjects of a statement.
func subjectsOf(v api.Value) ([]api.Subject, error) {
	o := object{Value: v}
	decoded(&o, "_type", ofText(just(isStatementForm)))
	decoded(&o, "predicate", anyObject)
	decoded(&o, "predicateType", ofText(just(isType)))
	all := decoded(&o, "subject", ofList(api.MaxSubject, subjectOf))
	if o.end() != nil {
		return nil, api.ErrKind
	}
	return all, nil
}

func subjectOf(v api.Value) (api.Subject, error) {
	o := object{Value: v}
	s := api.Subject{
		Name:   decoded(&o, "name", ofText(just(isShort))),
		Digest: decoded(&o, "digest", subjectDigest),
	}
	return s, o.end()
}

func subjectDigest(v api.Value) (api.Sum, error) {
	o := object{Value: v}
	d := decoded(&o, "sha256", ofText(coder.Sum))
	return d, o.end()
}

// anyObject takes an object, whatever is in it.
func anyObject(v api.Value) (api.Value, error) {
	if v.Kind != api.Object {
		return api.Value{}, api.ErrKind
	}
	return v, nil
}

func isStatementForm(s string) bool { return s == statementForm }
